/- How the evaluator's states stand for the machine's: what a value,what memory looks like. No statement is proved here. -/
import Derived.Test.YtemhpncmhdcheabGreatDoorEvB
namespace Go.Ev
set_option linter.unusedVariables false
set_option linter.unusedSimpArgs false
open Go
def Ro (w:World) (A:Option Addr) (n c:Nat) (τ:Ty) (l:List τ.D):Prop:=
 n=l.length∧n≤c∧c≤maxLen∧((A=none∧c=0)∨∃ a,A=some a∧(0 < n→∃ b o,a=⟨b,o,none⟩∧
  ∀ i x,l[i]?=some x→∀ j y,(τ.enc x)[j]?=some y→w.cell? ⟨b,o+i*τ.sz+j,none⟩=some y))
inductive SkO where
 | row (τ:Ty) (n:Nat)
 | box
def OB.sk:OB→SkO
 | .row τ l=>.row τ l.length
 | .box _=>.box
abbrev Sk:=Nat→Option SkO
def skel (o:List (Nat×OB)):Sk:=fun k=>(lkp o k).map OB.sk
structure Mu where
 f:Nat→Option (Nat×Nat×Nat)
 fo:Nat→Prop
instance:CoeFun Mu (fun _=>Nat→Option (Nat×Nat×Nat)):=⟨Mu.f⟩
def Own (S:Sk) (μ:Mu) (b:Nat):Prop:=(∃ k p,S k≠none∧μ k=some p∧p.1=b)∨¬ μ.fo b
def Hd (μ:Mu) (k:Nat) (τ:Ty) (A:Option Addr) (off len c:Nat):Prop:=
 len≤c∧c≤maxLen∧((A=none∧c=0)∨∃ g o s o',μ k=some (g,o,s)∧A=some ⟨g,o',none⟩∧o'+c*τ.sz≤s∧(0 < c→o'=o+off*τ.sz))
def PeAt (S:Sk) (μ:Mu) (w:World) (cells:List Value) (j:Nat) (y:Value):Prop:=
 ∃ b o,y=.pointer (some ⟨b,o+j,none⟩)∧(∀ q x,cells[q]?=some x→w.cell? ⟨b,o+q,none⟩=some x)∧b < w.heap.size∧¬ Own S μ b∧∀ x∈cells,okV x=true
def RoAt (S:Sk) (μ:Mu) (w:World) (τ:Ty) (l:List τ.D) (y:Value):Prop:=
 ∃ A n c,y=.slice A n c∧Ro w A n c τ l∧(0 < n→∀ a,A=some a→¬ Own S μ a.block)
def RoL (S:Sk) (μ:Mu) (w:World) (τ:Ty) (ls:List (List τ.D)) (A:Option Addr) (n c:Nat):Prop:=
 n=ls.length∧n≤c∧c≤maxLen∧(0 < n→∃ b o,A=some ⟨b,o,none⟩∧¬ Own S μ b∧b < w.heap.size∧∀ (i:Nat) l,ls[i]?=some l→∃ y,w.cell? ⟨b,o+i,none⟩=some y∧RoAt S μ w τ l y)
def CapAt (S:Sk) (μ:Mu) (w:World):Cap→Value→Prop
 | .k x,p=>PeAt S μ w [x] 0 p
 | .b k,p=>∃ g o s,S k=some .box∧μ k=some (g,o,s)∧p=.pointer (some ⟨g,o,none⟩)
 | .v x,p=>p=x∧okV x=true
def ClIs (S:Sk) (μ:Mu) (w:World) (f:Nat) (ps:List Value) (y:Value):Prop:=match Nat.blt f 1000000 with
 | true=>y=.func (.func f) #[] ps.toArray
 | false=>match Nat.blt f 2000000 with
  | true=>y=.func (.func (f - 1000000)) ps.toArray #[]
  | false=>∃ r es n,y=.map (some r)∧w.heap[r]?=some (.map es n)∧¬ Own S μ r∧es.toList.map (fun e=>(e.key,e.val))=cmdTab.map fun c=>(Value.string c.1,Value.agg #[.int .i64 c.2.1,.func (.func c.2.2) ps.toArray #[]])
theorem ClIs.mono {S S':Sk} {μ μ':Mu} {w w':World} {f:Nat} {ps:List Value} {y:Value} (h:ClIs S μ w f ps y) (h3:∀ b,b < w.heap.size→¬ Own S μ b→w'.heap[b]?=w.heap[b]?∧¬ Own S' μ' b):ClIs S' μ' w' f ps y:=by
 unfold ClIs at *
 split
 ·rename_i e; rw [e] at h; exact h
 ·rename_i e
  rw [e] at h
  simp only at h
  split
  ·rename_i e2; rw [e2] at h; exact h
  ·rename_i e2
   rw [e2] at h
   obtain ⟨r,es,n,h1,h2,h4,h5⟩:=h
   obtain ⟨g1,g2⟩:=h3 r (Array.getElem?_eq_some_iff.1 h2).1 h4
   exact ⟨r,es,n,h1,g1.trans h2,g2,h5⟩
theorem ClIs.cells {S:Sk} {μ:Mu} {w:World} {f:Nat} {ps:List Value} {y:Value} (h:ClIs S μ w f ps y):y.cells.toList=[y]∧okV y=true:=by
 unfold ClIs at h
 split at h
 ·subst h; exact ⟨rfl,rfl⟩
 ·split at h
  ·subst h; exact ⟨rfl,rfl⟩
  ·obtain ⟨r,es,n,rfl,_⟩:=h; exact ⟨rfl,rfl⟩
theorem ClIs.fn {S:Sk} {μ:Mu} {w:World} {f:Nat} {ps:List Value} {y:Value} (h:ClIs S μ w f ps y) (hf:Nat.blt f 1000000=true):y=.func (.func f) #[] ps.toArray:=by
 unfold ClIs at h; rw [hf] at h; exact h
theorem ClIs.of {S:Sk} {μ:Mu} {w:World} {f:Nat} {ps:List Value} (hf:Nat.blt f 1000000=true):ClIs S μ w f ps (.func (.func f) #[] ps.toArray):=by
 unfold ClIs; rw [hf]
def RC (S:Sk) (μ:Mu) (w:World):C→Value→Prop
 | .v x,y=>y=x
 | .nil,y=>y=.slice none 0 0
 | .ro τ l,y=>∃ A n c,y=.slice A n c∧Ro w A n c τ l∧(0 < n→∀ a,A=some a→¬ Own S μ a.block)
 | .ow k,y=>∃ A n c τ,y=.slice A n c∧S k=some (.row τ n)∧Hd μ k τ A 0 n c
 | .sub k off len,y=>∃ A c τ n,y=.slice A len c∧S k=some (.row τ n)∧off+len≤n∧n≤off+c∧Hd μ k τ A off len c
 | .pb k j,y=>∃ g o s,S k=some .box∧μ k=some (g,o,s)∧y=.pointer (some ⟨g,o+j,none⟩)
 | .pr k i j,y=>∃ g o s τ n,S k=some (.row τ n)∧i < n∧μ k=some (g,o,s)∧y=.pointer (some ⟨g,o+i*τ.sz+j,none⟩)
 | .pe cells j,y=>∃ b o,y=.pointer (some ⟨b,o+j,none⟩)∧(∀ q x,cells[q]?=some x→w.cell? ⟨b,o+q,none⟩=some x)∧b < w.heap.size∧¬ Own S μ b∧∀ x∈cells,okV x=true
 | .cl f cs,y=>∃ ps:List Value,ClIs S μ w f ps y∧ps.length=cs.length∧∀ (i:Nat) x p,cs[i]?=some x→ps[i]?=some p→CapAt S μ w x p
 | .rol τ ls,y=>∃ A n c,y=.slice A n c∧RoL S μ w τ ls A n c
 | .pel τ l,y=>∃ b o z,y=.pointer (some ⟨b,o,none⟩)∧¬ Own S μ b∧b < w.heap.size∧w.cell? ⟨b,o,none⟩=some z∧RoAt S μ w τ l z
 | .xs k off len c,y=>∃ A τ n,y=.slice A len c∧S k=some (.row τ n)∧Hd μ k τ A off len c
 | .arr l,y=>y=.agg (l.map (Value.int .i64)).toArray
 | .sb k n,y=>∃ g o s c,y=.slice (some ⟨g,o,none⟩) n c∧S k=some .box∧μ k=some (g,o,s)∧n≤c∧c≤maxLen∧o+c≤s
 | .un,_=>True
def RCs (S:Sk) (μ:Mu) (w:World):List C→List Value→Prop
 | [],[]=>True
 | c :: cs,y :: ys=>RC S μ w c y∧okV y=true∧RCs S μ w cs ys
 | _,_=>False
def R1 (S:Sk) (μ:Mu) (w:World):A1→Value→Prop
 | .c x,y=>RC S μ w x y
 | .agg l,y=>∃ vs,y=.agg vs∧RCs S μ w l vs.toList
 | .ptr _,_=>False
def R1s (S:Sk) (μ:Mu) (w:World):List A1→List Value→Prop
 | [],[]=>True
 | a :: r,y :: ys=>R1 S μ w a y∧R1s S μ w r ys
 | _,_=>False
def RA (S:Sk) (μ:Mu) (w:World):AV→Value→Prop
 | .one a,y=>R1 S μ w a y
 | .tup l,y=>∃ vs,y=.tuple vs∧R1s S μ w l vs.toList
def RowIs (cur:Array Value) (o:Nat) (τ:Ty) (l:List τ.D):Prop:=
 ∀ i x,l[i]?=some x→∀ j y,(τ.enc x)[j]?=some y→cur[o+i*τ.sz+j]?=some y
def RO (S:Sk) (μ:Mu) (w:World) (k:Nat):OB→Prop
 | .row τ l=>(μ k=none∧l=[])∨∃ g o s cur T,μ k=some (g,o,s)∧w.heap[g]?=some (.cells cur T (0,0))∧cur.size=s∧o+l.length*τ.sz≤s∧RowIs cur o τ l
 | .box cs=>∃ g o s cur T,μ k=some (g,o,s)∧w.heap[g]?=some (.cells cur T (0,0))∧cur.size=s∧o+cs.length≤s∧RCs S μ w cs ((cur.toList.drop o).take cs.length)
structure Fr (M:Nat→Prop) (w0 w:World):Prop where
 os:w.os=w0.os
 tape:w.tape=w0.tape
 output:w.output=w0.output
 size:w0.heap.size≤w.heap.size
 blk:∀ b,b < w0.heap.size→¬ M b→w.heap[b]?=w0.heap[b]?
structure Wd where
 f:Nat→Nat→Prop
 hi:Nat→Option (Nat×Nat×Nat)
 fo:Nat→Prop
 sk:Sk
 fr:Nat→Value:=fun _=>undef
instance:CoeFun Wd (fun _=>Nat→Nat→Prop):=⟨Wd.f⟩
def vAt (fr:Nat→Value) (tmps:Array Value) (i:Nat):Value:=if i < 1000000 then tmps.getD i undef else fr (i - 1000000)
def GlE (g:Nat) (w:World):Prop:=∃ e,w.cell? ⟨g,0,none⟩=some e∧(e=.nilIface∨∃ te pe,e=.iface te pe)
def GlT (g:Nat) (w:World):Prop:=∃ cs ty fz,w.heap[g]?=some (.cells cs ty fz)∧cs=((List.range 20).map fun i=>Value.int .u64 ((10:Int) ^ i)).toArray
def globs:List (Nat×(World→Prop)):=[(3,GlE 3),(4,GlE 4),(5,GlT 5)]
def GLm (M:Nat→Prop) (w:World):Prop:=∀ p∈globs,¬ M p.1∧p.1 < w.heap.size∧∃ w1:World,w.heap[p.1]?=w1.heap[p.1]?∧p.2 w1
theorem GLm.keep {M M':Nat→Prop} {w0 w:World} (h:GLm M w0) (hf:Fr M w0 w) (hm:∀ b,M' b→M b∨w0.heap.size≤b):GLm M' w:=fun p hp=>by
 obtain ⟨h1,h2,w1,h3,h4⟩:=h p hp
 exact ⟨fun c=>(hm _ c).elim h1 fun c=>by omega,Nat.lt_of_lt_of_le h2 hf.size,w1,(hf.blk _ h2 h1).trans h3,h4⟩
theorem GLm.at {M M':Nat→Prop} {w:World} (h:GLm M w) (hm:∀ b,M' b→M b):GLm M' w:=fun p hp=>⟨fun c=>(h p hp).1 (hm _ c),(h p hp).2⟩
structure RepM (N:Nat) (w0:World) (M:Nat→Prop) (W:Wd) (lk:List Nat) (μ:Mu) (st:St) (a:Act) (w:World):Prop where
 df:a.defers=[]
 sz:a.tmps.size=N∧N≤1000000
 tm:∀ i,RA (skel st.o) μ w (st.get i) (vAt W.fr a.tmps i)
 ob:∀ k ob,lkp st.o k=some ob→RO (skel st.o) μ w k ob
 inj:∀ k k' p p',skel st.o k≠none→skel st.o k'≠none→μ k=some p→μ k'=some p'→p.1=p'.1→k=k'
 fr:Fr M w0 w
 wr:∀ k p,skel st.o k≠none→memN lk k=false→μ k=some p→M p.1∨w0.heap.size≤p.1
 ok:∀ k p,skel st.o k≠none→μ k=some p→W k p.1
 up:(∀ k b,w0.heap.size≤b→W k b)∧GLm M w0
 tr:∀ k k' b,k < 100000→W k b→W k' b
 fo:∀ k b,k < 100000→W k b→μ.fo b
 hh:(∀ k,100000≤k→μ k=W.hi k)∧μ.fo=W.fo∧∀ k,100000≤k→skel st.o k≠none→skel st.o k=W.sk k
def Rep (N:Nat) (w0:World) (M:Nat→Prop) (W:Wd) (lk:List Nat) (st:St) (a:Act) (w:World):Prop:=∃ μ,RepM N w0 M W lk μ st a w
theorem Fr.refl (M:Nat→Prop) (w:World):Fr M w w:=⟨rfl,rfl,rfl,Nat.le_refl _,fun _ _ _=>rfl⟩
theorem Fr.trans {M:Nat→Prop} {a b c:World} (h:Fr M a b) (k:Fr M b c):Fr M a c:=
 ⟨k.os.trans h.os,k.tape.trans h.tape,k.output.trans h.output,Nat.le_trans h.size k.size,fun i hi hm=>(k.blk i (Nat.lt_of_lt_of_le hi h.size) hm).trans (h.blk i hi hm)⟩
section lk
variable {α:Type}
theorem beq_refl (k:Nat):Nat.beq k k=true:=by simp
theorem beq_ne {j k:Nat} (h:j≠k):Nat.beq j k=false:=by
 cases e:Nat.beq j k with
 | false=>rfl
 | true=>exact absurd (Nat.eq_of_beq_eq_true e) h
theorem beq_cases (j k:Nat):(j=k∧Nat.beq j k=true)∨(j≠k∧Nat.beq j k=false):=by
 by_cases h:j=k
 ·subst h; exact .inl ⟨rfl,beq_refl _⟩
 ·exact .inr ⟨h,beq_ne h⟩
theorem lkp_cons_same (k:Nat) (x:α) (l:List (Nat×α)):lkp ((k,x) :: l) k=some x:=by simp [lkp]
theorem lkp_cons_ne {j k:Nat} (x:α) (l:List (Nat×α)) (h:j≠k):lkp ((j,x) :: l) k=lkp l k:=by
 have:=beq_ne h; simp only [lkp,this]
end lk
theorem lkp_mapT (f:C→C):∀ (t:List (Nat×AV)) (i:Nat),lkp (mapT f t) i=(lkp t i).map (AV.map f)
 | [],_=>rfl
 | (j,x) :: r,i=>by
  rcases beq_cases j i with ⟨rfl,h⟩ | ⟨h,_⟩
  ·simp [mapT,lkp]
  ·simp only [mapT,List.map_cons]
   rw [lkp_cons_ne _ _ h,lkp_cons_ne _ _ h]; exact lkp_mapT f r i
theorem lkp_mapO (f:C→C):∀ (t:List (Nat×OB)) (i:Nat),lkp (mapO f t) i=(lkp t i).map (OB.map f)
 | [],_=>rfl
 | (j,x) :: r,i=>by
  rcases beq_cases j i with ⟨rfl,h⟩ | ⟨h,_⟩
  ·simp [mapO,lkp]
  ·simp only [mapO,List.map_cons]
   rw [lkp_cons_ne _ _ h,lkp_cons_ne _ _ h]; exact lkp_mapO f r i
theorem lkp_dropO_same (k:Nat):∀ o:List (Nat×OB),lkp (dropO k o) k=none
 | []=>rfl
 | (j,x) :: r=>by
  rcases beq_cases j k with ⟨rfl,h⟩ | ⟨h,h'⟩
  ·simp only [dropO,h]; exact lkp_dropO_same j r
  ·simp only [dropO,h']; rw [lkp_cons_ne _ _ h]; exact lkp_dropO_same k r
theorem lkp_dropO_ne {k i:Nat} (hne:i≠k):∀ o:List (Nat×OB),lkp (dropO k o) i=lkp o i
 | []=>rfl
 | (j,x) :: r=>by
  rcases beq_cases j k with ⟨rfl,h⟩ | ⟨h,h'⟩
  ·simp only [dropO,h]; rw [lkp_cons_ne _ _ (Ne.symm hne)]; exact lkp_dropO_ne hne r
  ·simp only [dropO,h']
   rcases beq_cases j i with ⟨rfl,h2⟩ | ⟨h2,_⟩
   ·rw [lkp_cons_same,lkp_cons_same]
   ·rw [lkp_cons_ne _ _ h2,lkp_cons_ne _ _ h2]; exact lkp_dropO_ne hne r
theorem lkp_setO_ne {k i:Nat} (y:OB) (hne:i≠k):∀ o:List (Nat×OB),lkp (setO k y o) i=lkp o i
 | []=>rfl
 | (j,x) :: r=>by
  rcases beq_cases j k with ⟨rfl,h⟩ | ⟨h,h'⟩
  ·simp only [setO,h]; rw [lkp_cons_ne _ _ (Ne.symm hne),lkp_cons_ne _ _ (Ne.symm hne)]
  ·simp only [setO,h']
   rcases beq_cases j i with ⟨rfl,h2⟩ | ⟨h2,_⟩
   ·rw [lkp_cons_same,lkp_cons_same]
   ·rw [lkp_cons_ne _ _ h2,lkp_cons_ne _ _ h2]; exact lkp_setO_ne y hne r
theorem lkp_setO_same {k:Nat} (y:OB):∀ {o:List (Nat×OB)} {x:OB},lkp o k=some x→lkp (setO k y o) k=some y
 | [],_,h=>by simp [lkp] at h
 | (j,z) :: r,x,h=>by
  rcases beq_cases j k with ⟨rfl,h1⟩ | ⟨h1,h'⟩
  ·simp only [setO,h1]; exact lkp_cons_same _ _ _
  ·simp only [setO,h']
   rw [lkp_cons_ne _ _ h1] at h ⊢
   exact lkp_setO_same y h
theorem get_put_same (st:St) (d:Nat) (x:AV):(st.put d x).get d=x:=by simp [St.put,St.get,lkp]
theorem get_put_ne (st:St) {d i:Nat} (x:AV) (h:d≠i):(st.put d x).get i=st.get i:=by
 simp only [St.put,St.get]; rw [lkp_cons_ne _ _ h]
theorem get_mapT (f:C→C) (st:St) (o:List (Nat×OB)) (i:Nat) (hun:f .un=.un):(⟨mapT f st.t,o⟩:St).get i=(st.get i).map f:=by
 simp only [St.get,lkp_mapT]
 cases lkp st.t i with
 | none=>simp [AV.map,A1.map,hun]
 | some x=>rfl
theorem sk_map (f:C→C) (ob:OB):(ob.map f).sk=ob.sk:=by cases ob <;> rfl
theorem skel_some {o:List (Nat×OB)} {k:Nat} (h:skel o k≠none):∃ ob,lkp o k=some ob:=by
 cases e:lkp o k with
 | none=>simp [skel,e] at h
 | some ob=>exact ⟨ob,rfl⟩
theorem skel_of {o:List (Nat×OB)} {k:Nat} {ob:OB} (h:lkp o k=some ob):skel o k=some ob.sk:=by simp [skel,h]
theorem skel_ne {o:List (Nat×OB)} {k:Nat} {ob:OB} (h:lkp o k=some ob):skel o k≠none:=by simp [skel,h]
theorem enc_len (τ:Ty) (x:τ.D):(τ.enc x).length=τ.sz:=by cases τ <;> rfl
theorem enc_ok (τ:Ty) (x:τ.D):∀ y∈τ.enc x,okV y=true:=by
 cases τ <;> simp [Ty.enc,okV]
theorem sz_pos (τ:Ty):0 < τ.sz:=by cases τ <;> simp [Ty.sz]
theorem cell_lt {w:World} {b o:Nat} {y:Value} (h:w.cell? ⟨b,o,none⟩=some y):b < w.heap.size:=by
 rcases Nat.lt_or_ge b w.heap.size with hb | hb
 ·exact hb
 ·simp [World.cell?,Array.getElem?_eq_none hb] at h
theorem cell_heap {w w':World} {b o:Nat} (h:w'.heap[b]?=w.heap[b]?):w'.cell? ⟨b,o,none⟩=w.cell? ⟨b,o,none⟩:=by
 simp only [World.cell?,h]
theorem Ro.blk {w:World} {A:Option Addr} {n c:Nat} {τ:Ty} {l:List τ.D} (h:Ro w A n c τ l) (hn:0 < n):∃ a,A=some a∧a.block < w.heap.size:=by
 obtain ⟨h1,h2,_,⟨rfl,h4⟩ | ⟨a,rfl,ha⟩⟩:=h
 ·omega
 ·obtain ⟨b,o,rfl,hc⟩:=ha hn
  refine ⟨_,rfl,?_⟩
  obtain ⟨x,hx⟩:∃ x,l[0]?=some x:=⟨l[0]'(by omega),by simp⟩
  obtain ⟨y,hy⟩:∃ y,(τ.enc x)[0]?=some y:=⟨(τ.enc x)[0]'(by rw [enc_len]; exact sz_pos τ),by simp⟩
  exact cell_lt (hc 0 x hx 0 y hy)
theorem Ro.mono {w w':World} {A:Option Addr} {n c:Nat} {τ:Ty} {l:List τ.D} (h:Ro w A n c τ l) (hh:0 < n→∀ a,A=some a→w'.heap[a.block]?=w.heap[a.block]?):Ro w' A n c τ l:=by
 obtain ⟨h1,h2,h3,h4⟩:=h
 refine ⟨h1,h2,h3,?_⟩
 rcases h4 with h4 | ⟨a,rfl,ha⟩
 ·exact .inl h4
 ·refine .inr ⟨a,rfl,fun hn=>?_⟩
  obtain ⟨b,o,rfl,hc⟩:=ha hn
  exact ⟨b,o,rfl,fun i x hx j y hy=>(cell_heap (hh hn _ rfl)).trans (hc i x hx j y hy)⟩
theorem RepM.tmp {N:Nat} {w0 w:World} {M:Nat→Prop} {W:Wd} {lk:List Nat} {μ:Mu} {st:St} {a:Act} (h:RepM N w0 M W lk μ st a w) (i:Nat):RA (skel st.o) μ w (st.tmp i) (a.tmps.getD i undef):=by
 unfold St.tmp
 split
 ·rename_i hb
  have hlt:i < 1000000:=by simpa using hb
  have:=h.tm i
  rwa [vAt,if_pos hlt] at this
 ·trivial
theorem tmp_lt {st:St} {i:Nat} {b:Value} (h:st.tmp i=.one (.c (.v b))):i < 1000000∧st.get i=.one (.c (.v b)):=by
 unfold St.tmp at h
 split at h
 ·rename_i hb
  exact ⟨by simpa using hb,h⟩
 ·cases h
theorem PeAt.mono {S S':Sk} {μ μ':Mu} {w w':World} {cells:List Value} {j:Nat} {y:Value} (h:PeAt S μ w cells j y)
  (h3:∀ b,b < w.heap.size→¬ Own S μ b→w'.heap[b]?=w.heap[b]?∧¬ Own S' μ' b) (h4:w.heap.size≤w'.heap.size):PeAt S' μ' w' cells j y:=by
 obtain ⟨b,o,rfl,hc,hlt,hno,hok⟩:=h
 obtain ⟨e1,e2⟩:=h3 b hlt hno
 exact ⟨b,o,rfl,fun q x hx=>(cell_heap e1).trans (hc q x hx),Nat.lt_of_lt_of_le hlt h4,e2,hok⟩
theorem RoAt.mono {S S':Sk} {μ μ':Mu} {w w':World} {τ:Ty} {l:List τ.D} {y:Value} (h:RoAt S μ w τ l y)
  (h3:∀ b,b < w.heap.size→¬ Own S μ b→w'.heap[b]?=w.heap[b]?∧¬ Own S' μ' b):RoAt S' μ' w' τ l y:=by
 obtain ⟨A,n,c,rfl,hr,ho⟩:=h
 refine ⟨A,n,c,rfl,hr.mono fun hn a ha=>?_,fun hn a ha=>?_⟩
 ·obtain ⟨a',e,hlt⟩:=hr.blk hn
  obtain rfl:a'=a:=by rw [e] at ha; injection ha
  exact (h3 _ hlt (ho hn a' e)).1
 ·obtain ⟨a',e,hlt⟩:=hr.blk hn
  obtain rfl:a'=a:=by rw [e] at ha; injection ha
  exact (h3 _ hlt (ho hn a' e)).2
theorem RoL.mono {S S':Sk} {μ μ':Mu} {w w':World} {τ:Ty} {ls:List (List τ.D)} {A:Option Addr} {n c:Nat} (h:RoL S μ w τ ls A n c)
  (h3:∀ b,b < w.heap.size→¬ Own S μ b→w'.heap[b]?=w.heap[b]?∧¬ Own S' μ' b) (h4:w.heap.size≤w'.heap.size):RoL S' μ' w' τ ls A n c:=by
 obtain ⟨e1,e2,e3,h⟩:=h
 refine ⟨e1,e2,e3,fun hn=>?_⟩
 obtain ⟨b,o,rfl,hno,hlt,hc⟩:=h hn
 obtain ⟨g1,g2⟩:=h3 b hlt hno
 refine ⟨b,o,rfl,g2,Nat.lt_of_lt_of_le hlt h4,fun i l hl=>?_⟩
 obtain ⟨y,y1,y2⟩:=hc i l hl
 exact ⟨y,(cell_heap g1).trans y1,y2.mono h3⟩
theorem pel_mono {S S':Sk} {μ μ':Mu} {w w':World} {τ:Ty} {l:List τ.D} {y:Value} (h:RC S μ w (.pel τ l) y)
  (h3:∀ b,b < w.heap.size→¬ Own S μ b→w'.heap[b]?=w.heap[b]?∧¬ Own S' μ' b) (h4:w.heap.size≤w'.heap.size):RC S' μ' w' (.pel τ l) y:=by
 obtain ⟨b,o,z,rfl,hno,hlt,hc,hr⟩:=h
 obtain ⟨g1,g2⟩:=h3 b hlt hno
 exact ⟨b,o,z,rfl,g2,Nat.lt_of_lt_of_le hlt h4,(cell_heap g1).trans hc,hr.mono h3⟩
theorem rol_mono {S S':Sk} {μ μ':Mu} {w w':World} {τ:Ty} {ls:List (List τ.D)} {y:Value} (h:RC S μ w (.rol τ ls) y)
  (h3:∀ b,b < w.heap.size→¬ Own S μ b→w'.heap[b]?=w.heap[b]?∧¬ Own S' μ' b) (h4:w.heap.size≤w'.heap.size):RC S' μ' w' (.rol τ ls) y:=by
 obtain ⟨A,n,c,rfl,h⟩:=h
 exact ⟨A,n,c,rfl,h.mono h3 h4⟩
theorem CapAt.mono {S S':Sk} {μ μ':Mu} {w w':World} {x:Cap} {p:Value} (D:Nat→Prop) (hD:∀ k,x=.b k→¬ D k) (h:CapAt S μ w x p) (h1:∀ k s,¬ D k→S k=some s→S' k=some s) (h2:∀ k,¬ D k→S k≠none→μ' k=μ k)
  (h3:∀ b,b < w.heap.size→¬ Own S μ b→w'.heap[b]?=w.heap[b]?∧¬ Own S' μ' b) (h4:w.heap.size≤w'.heap.size):CapAt S' μ' w' x p:=by
 cases x with
 | k x=>exact PeAt.mono h h3 h4
 | b k=>
  obtain ⟨g,o,s,hs,hm,rfl⟩:=h
  exact ⟨g,o,s,h1 _ _ (hD k rfl) hs,by rw [h2 k (hD k rfl) (by rw [hs]; simp)]; exact hm,rfl⟩
 | v x=>exact h
theorem capIn_false {k:Nat}:∀ {cs:List Cap},capIn k cs=false→∀ {i:Nat} {j:Nat},cs[i]?=some (.b j)→j≠k
 | [],_,i,j,h=>by simp at h
 | .b k' :: r,h,i,j,hi=>by
  simp only [capIn] at h
  rcases beq_cases k' k with ⟨_,e⟩ | ⟨hne,e⟩
  ·rw [e] at h; cases h
  ·rw [e] at h
   cases i with
   | zero=>simp at hi; subst hi; exact hne
   | succ i=>exact capIn_false h (i:=i) (by simpa using hi)
 | .k x :: r,h,i,j,hi=>by
  cases i with
  | zero=>simp at hi
  | succ i=>exact capIn_false (cs:=r) h (i:=i) (by simpa using hi)
 | .v x :: r,h,i,j,hi=>by
  cases i with
  | zero=>simp at hi
  | succ i=>exact capIn_false (cs:=r) h (i:=i) (by simpa using hi)
theorem RC.mono {S S':Sk} {μ μ':Mu} {w w':World} {c:C} {y:Value} (h:RC S μ w c y) (h1:∀ k s,S k=some s→S' k=some s) (h2:∀ k,S k≠none→μ' k=μ k)
  (h3:∀ b,b < w.heap.size→¬ Own S μ b→w'.heap[b]?=w.heap[b]?∧¬ Own S' μ' b) (h4:w.heap.size≤w'.heap.size):RC S' μ' w' c y:=by
 cases c with
 | sb k n=>
  obtain ⟨g,o,s,c,rfl,hs,hm,h5⟩:=h
  exact ⟨g,o,s,c,rfl,h1 _ _ hs,(h2 k (by rw [hs]; simp)).trans hm,h5⟩
 | arr l=>exact h
 | v x=>exact h
 | nil=>exact h
 | ro τ l=>
  obtain ⟨A,n,c,rfl,hr,ho⟩:=h
  refine ⟨A,n,c,rfl,hr.mono fun hn a ha=>?_,fun hn a ha=>?_⟩
  ·obtain ⟨a',e,hlt⟩:=hr.blk hn
   obtain rfl:a'=a:=by rw [e] at ha; injection ha
   exact (h3 _ hlt (ho hn a' e)).1
  ·obtain ⟨a',e,hlt⟩:=hr.blk hn
   obtain rfl:a'=a:=by rw [e] at ha; injection ha
   exact (h3 _ hlt (ho hn a' e)).2
 | ow k=>
  obtain ⟨A,n,c,τ,rfl,hs,hh⟩:=h
  refine ⟨A,n,c,τ,rfl,h1 _ _ hs,?_⟩
  unfold Hd at *; rw [h2 k (by rw [hs]; simp)]; exact hh
 | sub k off len=>
  obtain ⟨A,c,τ,n,rfl,hs,hn,hnc,hh⟩:=h
  refine ⟨A,c,τ,n,rfl,h1 _ _ hs,hn,hnc,?_⟩
  unfold Hd at *; rw [h2 k (by rw [hs]; simp)]; exact hh
 | pb k j=>
  obtain ⟨g,o,s,hs,hm,rfl⟩:=h
  exact ⟨g,o,s,h1 _ _ hs,by rw [h2 k (by rw [hs]; simp)]; exact hm,rfl⟩
 | pr k i j=>
  obtain ⟨g,o,s,τ,n,hs,hi,hm,rfl⟩:=h
  exact ⟨g,o,s,τ,n,h1 _ _ hs,hi,by rw [h2 k (by rw [hs]; simp)]; exact hm,rfl⟩
 | pe cells j=>
  obtain ⟨b,o,rfl,hc,hlt,hno,hok⟩:=h
  obtain ⟨e1,e2⟩:=h3 b hlt hno
  exact ⟨b,o,rfl,fun q x hx=>(cell_heap e1).trans (hc q x hx),Nat.lt_of_lt_of_le hlt h4,e2,hok⟩
 | cl f cs=>
  obtain ⟨ps,e,hl,hp⟩:=h
  exact ⟨ps,e.mono h3,hl,fun i x p hx hp'=>(hp i x p hx hp').mono (fun _=>False) (fun _ _ h=>h) (fun k s _=>h1 k s) (fun k _=>h2 k) h3 h4⟩
 | rol τ ls=>exact rol_mono h h3 h4
 | pel τ l=>exact pel_mono h h3 h4
 | xs k off len c=>
  obtain ⟨A,τ,n,rfl,hs,hh⟩:=h
  refine ⟨A,τ,n,rfl,h1 _ _ hs,?_⟩
  unfold Hd at *; rw [h2 k (by rw [hs]; simp)]; exact hh
 | un=>trivial
theorem RC.kill {S S':Sk} {μ μ':Mu} {w w':World} {c:C} {y:Value} {k0:Nat} (h:RC S μ w c y) (h1:∀ k s,k≠k0→S k=some s→S' k=some s) (h2:∀ k,k≠k0→S k≠none→μ' k=μ k)
  (h3:∀ b,b < w.heap.size→¬ Own S μ b→w'.heap[b]?=w.heap[b]?∧¬ Own S' μ' b) (h4:w.heap.size≤w'.heap.size):RC S' μ' w' (c.kill k0) y:=by
 cases c with
 | sb k n=>
  simp only [C.kill]
  rcases beq_cases k k0 with ⟨_,e⟩ | ⟨hne,e⟩
  ·rw [e]; trivial
  ·rw [e]
   obtain ⟨g,o,s,c,rfl,hs,hm,h5⟩:=h
   exact ⟨g,o,s,c,rfl,h1 _ _ hne hs,(h2 k hne (by rw [hs]; simp)).trans hm,h5⟩
 | arr l=>exact h
 | v x=>exact h
 | nil=>exact h
 | ro τ l=>
  obtain ⟨A,n,c,rfl,hr,ho⟩:=h
  refine ⟨A,n,c,rfl,hr.mono fun hn a ha=>?_,fun hn a ha=>?_⟩
  ·obtain ⟨a',e,hlt⟩:=hr.blk hn
   obtain rfl:a'=a:=by rw [e] at ha; injection ha
   exact (h3 _ hlt (ho hn a' e)).1
  ·obtain ⟨a',e,hlt⟩:=hr.blk hn
   obtain rfl:a'=a:=by rw [e] at ha; injection ha
   exact (h3 _ hlt (ho hn a' e)).2
 | ow k=>
  simp only [C.kill]
  rcases beq_cases k k0 with ⟨_,e⟩ | ⟨hne,e⟩
  ·rw [e]; trivial
  ·rw [e]
   obtain ⟨A,n,c,τ,rfl,hs,hh⟩:=h
   refine ⟨A,n,c,τ,rfl,h1 _ _ hne hs,?_⟩
   unfold Hd at *; rw [h2 k hne (by rw [hs]; simp)]; exact hh
 | sub k off len=>
  simp only [C.kill]
  rcases beq_cases k k0 with ⟨_,e⟩ | ⟨hne,e⟩
  ·rw [e]; trivial
  ·rw [e]
   obtain ⟨A,c,τ,n,rfl,hs,hn,hnc,hh⟩:=h
   refine ⟨A,c,τ,n,rfl,h1 _ _ hne hs,hn,hnc,?_⟩
   unfold Hd at *; rw [h2 k hne (by rw [hs]; simp)]; exact hh
 | pb k j=>
  simp only [C.kill]
  rcases beq_cases k k0 with ⟨_,e⟩ | ⟨hne,e⟩
  ·rw [e]; trivial
  ·rw [e]
   obtain ⟨g,o,s,hs,hm,rfl⟩:=h
   exact ⟨g,o,s,h1 _ _ hne hs,by rw [h2 k hne (by rw [hs]; simp)]; exact hm,rfl⟩
 | pr k i j=>
  simp only [C.kill]
  rcases beq_cases k k0 with ⟨_,e⟩ | ⟨hne,e⟩
  ·rw [e]; trivial
  ·rw [e]
   obtain ⟨g,o,s,τ,n,hs,hi,hm,rfl⟩:=h
   exact ⟨g,o,s,τ,n,h1 _ _ hne hs,hi,by rw [h2 k hne (by rw [hs]; simp)]; exact hm,rfl⟩
 | pe cells j=>
  obtain ⟨b,o,rfl,hc,hlt,hno,hok⟩:=h
  obtain ⟨e1,e2⟩:=h3 b hlt hno
  exact ⟨b,o,rfl,fun q x hx=>(cell_heap e1).trans (hc q x hx),Nat.lt_of_lt_of_le hlt h4,e2,hok⟩
 | cl f cs=>
  simp only [C.kill]
  cases hci:capIn k0 cs with
  | true=>trivial
  | false=>
   obtain ⟨ps,e,hl,hp⟩:=h
   exact ⟨ps,e.mono h3,hl,fun i x p hx hp'=>(hp i x p hx hp').mono (fun k=>k=k0) (fun k e=>by subst e; exact capIn_false hci hx) (fun k s hk=>h1 k s hk) (fun k hk=>h2 k hk) h3 h4⟩
 | rol τ ls=>exact rol_mono h h3 h4
 | pel τ l=>exact pel_mono h h3 h4
 | xs k off len c=>
  simp only [C.kill]
  rcases beq_cases k k0 with ⟨_,e⟩ | ⟨hne,e⟩
  ·rw [e]; trivial
  ·rw [e]
   obtain ⟨A,τ,n,rfl,hs,hh⟩:=h
   refine ⟨A,τ,n,rfl,h1 _ _ hne hs,?_⟩
   unfold Hd at *; rw [h2 k hne (by rw [hs]; simp)]; exact hh
 | un=>trivial
theorem RCs.map {S S':Sk} {μ μ':Mu} {w w':World} {f:C→C} (hf:∀ c y,RC S μ w c y→RC S' μ' w' (f c) y):∀ {cs:List C} {ys:List Value},RCs S μ w cs ys→RCs S' μ' w' (cs.map f) ys
 | [],[],_=>trivial
 | c :: cs,y :: ys,h=>⟨hf c y h.1,h.2.1,RCs.map hf h.2.2⟩
 | [],_ :: _,h=>h.elim
 | _ :: _,[],h=>h.elim
theorem R1.map {S S':Sk} {μ μ':Mu} {w w':World} {f:C→C} (hf:∀ c y,RC S μ w c y→RC S' μ' w' (f c) y) {a:A1} {y:Value} (h:R1 S μ w a y):R1 S' μ' w' (a.map f) y:=by
 cases a with
 | c x=>exact hf _ _ h
 | agg l=>obtain ⟨vs,rfl,hv⟩:=h; exact ⟨vs,rfl,RCs.map hf hv⟩
 | ptr l=>exact h.elim
theorem R1s.map {S S':Sk} {μ μ':Mu} {w w':World} {f:C→C} (hf:∀ c y,RC S μ w c y→RC S' μ' w' (f c) y):∀ {cs:List A1} {ys:List Value},R1s S μ w cs ys→R1s S' μ' w' (cs.map (A1.map f)) ys
 | [],[],_=>trivial
 | c :: cs,y :: ys,h=>⟨h.1.map hf,R1s.map hf h.2⟩
 | [],_ :: _,h=>h.elim
 | _ :: _,[],h=>h.elim
theorem RA.map {S S':Sk} {μ μ':Mu} {w w':World} {f:C→C} (hf:∀ c y,RC S μ w c y→RC S' μ' w' (f c) y) {a:AV} {y:Value} (h:RA S μ w a y):RA S' μ' w' (a.map f) y:=by
 cases a with
 | one a=>exact R1.map hf h
 | tup l=>obtain ⟨vs,rfl,hv⟩:=h; exact ⟨vs,rfl,R1s.map hf hv⟩
theorem map_id' (l:List C):l.map (fun c=>c)=l:=by simp
theorem A1.map_id (a:A1):a.map (fun c=>c)=a:=by cases a <;> simp [A1.map]
theorem AV.map_id (a:AV):a.map (fun c=>c)=a:=by
 cases a with
 | one a=>simp [AV.map,A1.map_id]
 | tup l=>
  have:A1.map (fun c=>c)=id:=by funext x; exact A1.map_id x
  simp [AV.map,this]
theorem OB.map_id (a:OB):a.map (fun c=>c)=a:=by cases a <;> simp [OB.map]
theorem RCs.imp {S S':Sk} {μ μ':Mu} {w w':World} (hf:∀ c y,RC S μ w c y→RC S' μ' w' c y) {cs:List C} {ys:List Value} (h:RCs S μ w cs ys):RCs S' μ' w' cs ys:=by
 have:=RCs.map (f:=fun c=>c) hf h; rwa [map_id'] at this
theorem R1.imp {S S':Sk} {μ μ':Mu} {w w':World} (hf:∀ c y,RC S μ w c y→RC S' μ' w' c y) {a:A1} {y:Value} (h:R1 S μ w a y):R1 S' μ' w' a y:=by
 have:=R1.map (f:=fun c=>c) hf h; rwa [A1.map_id] at this
theorem RA.imp {S S':Sk} {μ μ':Mu} {w w':World} (hf:∀ c y,RC S μ w c y→RC S' μ' w' c y) {a:AV} {y:Value} (h:RA S μ w a y):RA S' μ' w' a y:=by
 have:=RA.map (f:=fun c=>c) hf h; rwa [AV.map_id] at this
theorem RCs.len {S:Sk} {μ:Mu} {w:World}:∀ {cs:List C} {ys:List Value},RCs S μ w cs ys→ys.length=cs.length
 | [],[],_=>rfl
 | _ :: _,_ :: _,h=>by simp [RCs.len h.2.2]
 | [],_ :: _,h=>h.elim
 | _ :: _,[],h=>h.elim
theorem RCs.get {S:Sk} {μ:Mu} {w:World}:∀ {cs:List C} {ys:List Value} {j:Nat} {c:C},RCs S μ w cs ys→cs[j]?=some c→∃ y,ys[j]?=some y∧RC S μ w c y∧okV y=true
 | [],[],_,_,_,h=>by simp at h
 | c :: cs,y :: ys,0,_,h,e=>by simp at e; subst e; exact ⟨y,rfl,h.1,h.2.1⟩
 | c :: cs,y :: ys,j+1,_,h,e=>by simpa using RCs.get h.2.2 (by simpa using e)
 | [],_ :: _,_,_,h,_=>h.elim
 | _ :: _,[],_,_,h,_=>h.elim
theorem RCs.drop {S:Sk} {μ:Mu} {w:World}:∀ {cs:List C} {ys:List Value} (j:Nat),RCs S μ w cs ys→RCs S μ w (cs.drop j) (ys.drop j)
 | cs,ys,0,h=>h
 | [],[],_+1,_=>trivial
 | _ :: _,_ :: _,j+1,h=>RCs.drop j h.2.2
 | [],_ :: _,_,h=>h.elim
 | _ :: _,[],_,h=>h.elim
theorem RCs.take {S:Sk} {μ:Mu} {w:World}:∀ {cs:List C} {ys:List Value} (j:Nat),RCs S μ w cs ys→RCs S μ w (cs.take j) (ys.take j)
 | _,_,0,_=>by simp [RCs]
 | [],[],_+1,_=>trivial
 | _ :: _,_ :: _,j+1,h=>⟨h.1,h.2.1,RCs.take j h.2.2⟩
 | [],_ :: _,_,h=>h.elim
 | _ :: _,[],_,h=>h.elim
theorem RCs.append {S:Sk} {μ:Mu} {w:World}:∀ {cs ds:List C} {ys zs:List Value},RCs S μ w cs ys→RCs S μ w ds zs→RCs S μ w (cs++ds) (ys++zs)
 | [],_,[],_,_,h=>h
 | _ :: _,_,_ :: _,_,h,h'=>⟨h.1,h.2.1,RCs.append h.2.2 h'⟩
 | [],_,_ :: _,_,h,_=>h.elim
 | _ :: _,_,[],_,h,_=>h.elim
theorem RCs.set {S:Sk} {μ:Mu} {w:World} {c:C} {y:Value} (hc:RC S μ w c y) (hy:okV y=true):∀ {cs:List C} {ys:List Value} (j:Nat),RCs S μ w cs ys→RCs S μ w (cs.set j c) (ys.set j y)
 | [],[],_,_=>trivial
 | _ :: _,_ :: _,0,h=>⟨hc,hy,h.2.2⟩
 | _ :: _,_ :: _,j+1,h=>⟨h.1,h.2.1,RCs.set hc hy j h.2.2⟩
 | [],_ :: _,_,h=>h.elim
 | _ :: _,[],_,h=>h.elim
theorem R1s.get {S:Sk} {μ:Mu} {w:World}:∀ {cs:List A1} {ys:List Value} {j:Nat} {c:A1},R1s S μ w cs ys→cs[j]?=some c→∃ y,ys[j]?=some y∧R1 S μ w c y
 | [],[],_,_,_,h=>by simp at h
 | c :: cs,y :: ys,0,_,h,e=>by simp at e; subst e; exact ⟨y,rfl,h.1⟩
 | c :: cs,y :: ys,j+1,_,h,e=>by simpa using R1s.get h.2 (by simpa using e)
 | [],_ :: _,_,_,h,_=>h.elim
 | _ :: _,[],_,_,h,_=>h.elim
theorem R1s.len {S:Sk} {μ:Mu} {w:World}:∀ {cs:List A1} {ys:List Value},R1s S μ w cs ys→ys.length=cs.length
 | [],[],_=>rfl
 | _ :: _,_ :: _,h=>by simp [R1s.len h.2]
 | [],_ :: _,h=>h.elim
 | _ :: _,[],h=>h.elim
theorem RepM.changeZ {N:Nat} {w0 w w':World} {M:Nat→Prop} {W:Wd} {lk:List Nat} {μ μ':Mu} {st st':St} {a:Act} (h:RepM N w0 M W lk μ st a w) (f:C→C) (Z:Nat→Prop)
  (ht:∀ i,st'.get i=(st.get i).map f)
  (hC:∀ c y,RC (skel st.o) μ w c y→RC (skel st'.o) μ' w' (f c) y)
  (hO:∀ k ob',lkp st'.o k=some ob'→¬ Z k→∃ ob,lkp st.o k=some ob∧ob'=ob.map f∧μ' k=μ k∧∀ p,μ k=some p→w'.heap[p.1]?=w.heap[p.1]?)
  (h0:∀ k ob',Z k→lkp st'.o k=some ob'→RO (skel st'.o) μ' w' k ob')
  (hn:∀ k p,Z k→skel st'.o k≠none→μ' k=some p→(∀ k' q,k'≠k→skel st'.o k'≠none→μ' k'=some q→q.1≠p.1)∧(memN lk k=false→M p.1∨w0.heap.size≤p.1)∧W k p.1)
  (hfo:μ'.fo=μ.fo∧(∀ k,100000≤k→μ' k=μ k)∧∀ k,100000≤k→Z k→skel st'.o k≠none→skel st'.o k=skel st.o k∧skel st.o k≠none) (hf:Fr M w0 w'):RepM N w0 M W lk μ' st' a w':=by
 have hold:∀ k p,¬ Z k→skel st'.o k≠none→μ' k=some p→skel st.o k≠none∧μ k=some p:=by
  intro k p hne hs hm
  obtain ⟨ob',e⟩:=skel_some hs
  obtain ⟨ob,e1,_,e3,_⟩:=hO k ob' e hne
  exact ⟨skel_ne e1,by rw [← e3]; exact hm⟩
 refine ⟨h.df,h.sz,fun i=>?_,fun k ob' e=>?_,fun k k' p p' hk hk' hp hp' heq=>?_,hf,fun k p hk hl hp=>?_,fun k p hk hp=>?_,h.up,h.tr,fun k b h1 hb=>by rw [hfo.1]; exact h.fo k b h1 hb,fun k hk=>(hfo.2.1 k hk).trans (h.hh.1 k hk),hfo.1.trans h.hh.2.1,fun k hk hs=>?_⟩
 ·rw [ht]; exact RA.map hC (h.tm i)
 ·by_cases hne:Z k
  ·exact h0 k _ hne e
  ·obtain ⟨ob,e1,rfl,e3,e4⟩:=hO k ob' e hne
   have hb:=h.ob k ob e1
   cases ob with
   | row τ l=>
    rcases hb with ⟨hb1,hb2⟩ | ⟨g,o,s,cur,T,hm,hh,hs,hsz,hr⟩
    ·exact .inl ⟨e3.trans hb1,hb2⟩
    ·exact .inr ⟨g,o,s,cur,T,e3.trans hm,(e4 _ hm).trans hh,hs,hsz,hr⟩
   | box cs=>
    obtain ⟨g,o,s,cur,T,hm,hh,hs,hsz,hr⟩:=hb
    refine ⟨g,o,s,cur,T,e3.trans hm,(e4 _ hm).trans hh,hs,by simpa using hsz,?_⟩
    have:=RCs.map (f:=f) hC hr
    simpa using this
 ·by_cases e:k=k'
  ·exact e
  ·exfalso
   by_cases hne:Z k
   ·exact ((hn k p hne hk hp).1 k' p' (Ne.symm e) hk' hp') heq.symm
   ·by_cases hne':Z k'
    ·exact ((hn k' p' hne' hk' hp').1 k p e hk hp) heq
    ·obtain ⟨a1,a2⟩:=hold k p hne hk hp
     obtain ⟨b1,b2⟩:=hold k' p' hne' hk' hp'
     exact e (h.inj k k' p p' a1 b1 a2 b2 heq)
 ·by_cases hne:Z k
  ·exact (hn k p hne hk hp).2.1 hl
  ·obtain ⟨a1,a2⟩:=hold k p hne hk hp
   exact h.wr k p a1 hl a2
 ·by_cases hne:Z k
  ·exact (hn k p hne hk hp).2.2
  ·obtain ⟨a1,a2⟩:=hold k p hne hk hp
   exact h.ok k p a1 a2
 ·by_cases hne:Z k
  ·obtain ⟨e1,e2⟩:=hfo.2.2 k hk hne hs
   exact e1.trans (h.hh.2.2 k hk e2)
  ·obtain ⟨ob',e⟩:=skel_some hs
   obtain ⟨ob,e1,rfl,_⟩:=hO k ob' e hne
   have h1:skel st'.o k=skel st.o k:=by rw [skel_of e,skel_of e1,sk_map]
   exact h1.trans (h.hh.2.2 k hk (skel_ne e1))
theorem RepM.change {N:Nat} {w0 w w':World} {M:Nat→Prop} {W:Wd} {lk:List Nat} {μ μ':Mu} {st st':St} {a:Act} (h:RepM N w0 M W lk μ st a w) (f:C→C) (k0:Nat)
  (ht:∀ i,st'.get i=(st.get i).map f)
  (hC:∀ c y,RC (skel st.o) μ w c y→RC (skel st'.o) μ' w' (f c) y)
  (hO:∀ k ob',lkp st'.o k=some ob'→k≠k0→∃ ob,lkp st.o k=some ob∧ob'=ob.map f∧μ' k=μ k∧∀ p,μ k=some p→w'.heap[p.1]?=w.heap[p.1]?)
  (h0:∀ ob',lkp st'.o k0=some ob'→RO (skel st'.o) μ' w' k0 ob')
  (hn:∀ p,skel st'.o k0≠none→μ' k0=some p→(∀ k q,k≠k0→skel st'.o k≠none→μ' k=some q→q.1≠p.1)∧(memN lk k0=false→M p.1∨w0.heap.size≤p.1)∧W k0 p.1)
  (hfo:μ'.fo=μ.fo∧(∀ k,100000≤k→μ' k=μ k)∧(100000≤k0→skel st'.o k0≠none→skel st'.o k0=skel st.o k0∧skel st.o k0≠none)) (hf:Fr M w0 w'):RepM N w0 M W lk μ' st' a w':=
 h.changeZ f (fun k=>k=k0) ht hC hO (fun k ob' e=>by subst e; exact h0 ob') (fun k p e=>by subst e; exact hn p) ⟨hfo.1,hfo.2.1,fun k hk e=>by subst e; exact hfo.2.2 hk⟩ hf
end Go.Ev
