/- What the functions that the law reaches do, written as plain Lean. No statement is proved here. -/
import Derived.Test.YtemhpncmhdcheabGreatDoorEvT
namespace Go.Ev
set_option linter.unusedVariables false
set_option linter.unusedSimpArgs false
open Go
abbrev LI := List Int
abbrev LT := List (Int × Int × Bool)
abbrev LB := List ByteArray
theorem br_iff {b:Bool} {A B:Prop}:br b A B↔(b=true→A)∧(b=false→B):=by cases b <;> simp [br]
theorem br_f {A B:Prop}:br false A B=B:=rfl
theorem br_dec {p:Prop} [Decidable p] {A B:Prop}:br (decide p) A B↔(p→A)∧(¬ p→B):=by rw [br_iff]; simp
theorem br_beq {a b:Int} {A B:Prop}:br (a==b) A B↔(a=b→A)∧(a≠b→B):=by rw [br_iff]; simp
theorem br_bne {a b:Int} {A B:Prop}:br (a != b) A B↔(a≠b→A)∧(a=b→B):=by rw [br_iff]; simp
theorem br_not {b:Bool} {A B:Prop}:br (!b) A B↔br b B A:=by cases b <;> simp [br]
theorem inR {x:Int} (h1:-9223372036854775808≤x) (h2:x≤9223372036854775807):InR x:=⟨h1,h2⟩
section lists
variable {α:Type}
theorem drop_nil' {l:List α} {i:Nat} (h:l.drop i=[]):l.length≤i:=by simpa using h
theorem drop_cons' {l:List α} {i:Nat} {x:α} {r:List α} (h:l.drop i=x :: r):i < l.length∧(∀ d,l.getD i d=x)∧l[i]?=some x∧l.drop (i+1)=r∧l.take (i+1)=l.take i++[x]:=by
 have hlt:i < l.length:=by
  rcases Nat.lt_or_ge i l.length with h1 | h1
  ·exact h1
  ·rw [List.drop_eq_nil_of_le h1] at h; cases h
 have h2:=List.drop_eq_getElem_cons hlt
 rw [h] at h2
 injection h2 with h3 h4
 have h5:l[i]?=some x:=by rw [List.getElem?_eq_getElem hlt,h3]
 exact ⟨hlt,fun d=>by simp [List.getD,h5],h5,h4.symm,by rw [List.take_succ_eq_append_getElem hlt,h3]⟩
end lists
def plcF:LI→Int→Nat→Int
 | [],_,_=>-1
 | x :: r,n,i=>if x=n then (i:Int) else plcF r n (i+1)
def plc (l:LI) (n:Int):Int:=plcF l n 0
theorem plcF_spec:∀ (l:LI) (n:Int) (i:Nat),(n ∉ l∧plcF l n i=-1)∨∃ j,j < l.length∧l[j]?=some n∧(∀ q,q < j→l[q]?≠some n)∧plcF l n i=((i+j:Nat):Int)
 | [],n,i=>.inl ⟨by simp,rfl⟩
 | x :: r,n,i=>by
  by_cases h:x=n
  ·subst h
   exact .inr ⟨0,by simp,rfl,fun q hq=>by omega,by simp [plcF]⟩
  ·rcases plcF_spec r n (i+1) with ⟨h1,h2⟩ | ⟨j,h1,h2,h3,h4⟩
   ·exact .inl ⟨by simp [Ne.symm h,h1],by simp [plcF,h,h2]⟩
   ·refine .inr ⟨j+1,by simp; omega,by simpa using h2,fun q hq=>?_,?_⟩
    ·cases q with
     | zero=>simpa using h
     | succ q=>simpa using h3 q (by omega)
    ·simp only [plcF,h,if_false,h4]; omega
theorem plc_spec (l:LI) (n:Int):(n ∉ l∧plc l n=-1)∨∃ j:Nat,j < l.length∧l[j]?=some n∧(∀ q,q < j→l[q]?≠some n)∧plc l n=(j:Int):=by
 have:=plcF_spec l n 0
 simpa [plc] using this
theorem plc_pos {l:LI} {n:Int} (h:n∈l):∃ j:Nat,j < l.length∧l[j]?=some n∧(∀ q,q < j→l[q]?≠some n)∧plc l n=(j:Int):=by
 rcases plc_spec l n with ⟨h1,_⟩ | h2
 ·exact absurd h h1
 ·exact h2
theorem plc_ge {l:LI} {n:Int}:plc l n≥0↔n∈l:=by
 rcases plc_spec l n with ⟨h1,h2⟩ | ⟨j,h1,h2,_,h3⟩
 ·rw [h2]; simp [h1]
 ·rw [h3]; simp [List.mem_of_getElem? h2]
def VKeys (l:LI) (room:Int):Prop:=1≤room∧room≤8∧(l.length:Int)≤room∧(∀ x∈l,0≤x∧x≤31)∧l.Nodup
def VClock (room:Int) (keys:LI) (used:List Bool) (hand:Int):Prop:=
 VKeys keys room∧used.length=keys.length∧((keys.length:Int) < room→hand=0)∧((keys.length:Int)=room→0≤hand∧hand < keys.length)
def Bs (b:LI):Prop:=b.length≤2000∧∀ x∈b,0≤x∧x≤255
theorem Bs.get {b:LI} (h:Bs b) (i:Nat):0≤b.getD i 0∧b.getD i 0≤255:=by
 rcases Nat.lt_or_ge i b.length with hi | hi
 ·have hx:b[i]?=some (b.getD i 0):=by simp [List.getD,hi]
  exact h.2 _ (List.mem_of_getElem? hx)
 ·simp [List.getD,List.getElem?_eq_none hi]
def sweep:Nat→List Bool→Nat→List Bool×Nat
 | 0,u,h=>(u,h)
 | f+1,u,h=>if u.getD h false then sweep f (u.set h false) ((h+1) % u.length) else (u,h)
theorem count_clear {u:List Bool} {h:Nat} (hh:u.getD h false=true):(u.set h false).count true+1=u.count true:=by
 have hlt:h < u.length:=by
  rcases Nat.lt_or_ge h u.length with h1 | h1
  ·exact h1
  ·simp [List.getD,List.getElem?_eq_none h1] at hh
 have hg:u[h]=true:=by simpa [List.getD,hlt] using hh
 rw [List.count_set hlt,hg]
 have:0 < u.count true:=List.count_pos_iff.2 (hg ▸ List.getElem_mem hlt)
 simp; omega
theorem sweep_ok:∀ (f:Nat) (u:List Bool) (h:Nat),u.count true < f→h < u.length→
  (sweep f u h).1.length=u.length∧(sweep f u h).2 < u.length∧(sweep f u h).1.getD (sweep f u h).2 false=false∧∀ i,(sweep f u h).1.getD i false=true→u.getD i false=true
 | 0,u,h,hc,_=>by omega
 | f+1,u,h,hc,hl=>by
  unfold sweep
  split
  ·rename_i hu
   have hc2:=count_clear hu
   have hl2:(h+1) % u.length < (u.set h false).length:=by rw [List.length_set]; exact Nat.mod_lt _ (by omega)
   obtain ⟨a1,a2,a3,a4⟩:=sweep_ok f (u.set h false) ((h+1) % u.length) (by omega) hl2
   rw [List.length_set] at a1 a2
   refine ⟨a1,a2,a3,fun i hi=>?_⟩
   have:=a4 i hi
   by_cases e:h=i
   ·subst e; exact hu
   ·simpa [List.getD,List.getElem?_set_ne e] using this
  ·rename_i hu
   exact ⟨rfl,hl,by simpa using hu,fun i hi=>hi⟩
def tickM (room:Int) (keys:LI) (used:List Bool) (hand:Int) (key:Int):LI×List Bool×Int×Bool:=
 if key∈keys then (keys,used.set (plc keys key).toNat true,hand,true)
 else if (keys.length:Int) < room then (keys++[key],used++[false],hand,false)
 else (keys.set (sweep (used.length+1) used hand.toNat).2 key,(sweep (used.length+1) used hand.toNat).1,(((sweep (used.length+1) used hand.toNat).2+1) % keys.length:Nat),false)
theorem tmod_next (h n:Nat):Int.tmod ((h:Int)+1) (n:Int)=(((h+1) % n:Nat):Int):=by
 rw [show ((h:Int)+1)=((h+1:Nat):Int) by omega]
 rfl
theorem nodup_set {l:LI} {i:Nat} {x:Int} (hn:l.Nodup) (hx:x ∉ l):(l.set i x).Nodup:=by
 refine List.pairwise_iff_getElem.2 fun a b ha hb hab e=>?_
 rw [List.length_set] at ha hb
 rw [List.getElem_set,List.getElem_set] at e
 split at e
 ·split at e
  ·omega
  ·exact hx (e ▸ List.getElem_mem hb)
 ·split at e
  ·exact hx (e ▸ List.getElem_mem ha)
  ·exact List.pairwise_iff_getElem.1 hn a b ha hb hab e
theorem mem_set {l:LI} {i:Nat} {x y:Int} (h:y∈l.set i x):y=x∨y∈l:=by
 obtain ⟨j,hj⟩:=List.getElem?_of_mem h
 rw [List.getElem?_set] at hj
 split at hj
 ·split at hj
  ·injection hj with hj; exact .inl hj.symm
  ·cases hj
 ·exact .inr (List.mem_of_getElem? hj)
theorem tick_valid {room:Int} {keys:LI} {used:List Bool} {hand key:Int} (v:VClock room keys used hand) (hk:0≤key∧key≤31) :
  VClock room (tickM room keys used hand key).1 (tickM room keys used hand key).2.1 (tickM room keys used hand key).2.2.1:=by
 obtain ⟨⟨v1,v2,v3,v4,v5⟩,v6,v7,v8⟩:=v
 unfold tickM
 split
 ·exact ⟨⟨v1,v2,v3,v4,v5⟩,by simp [v6],v7,v8⟩
 ·rename_i hm
  split
  ·rename_i hl
   refine ⟨⟨v1,v2,by simp; omega,fun x hx=>?_,?_⟩,by simp [v6],fun h=>v7 hl,fun h=>?_⟩
   ·rcases List.mem_append.1 hx with hx | hx
    ·exact v4 x hx
    ·simp at hx; subst hx; exact hk
   ·rw [List.nodup_append]
    exact ⟨v5,by simp,fun a ha b hb e=>by simp at hb; subst hb; subst e; exact hm ha⟩
   ·rw [v7 hl]; simp
  ·rename_i hl
   have hfull:(keys.length:Int)=room:=by omega
   obtain ⟨w1,w2⟩:=v8 hfull
   have hc:used.count true < used.length+1:=Nat.lt_succ_of_le List.count_le_length
   obtain ⟨s1,s2,s3,s4⟩:=sweep_ok (used.length+1) used hand.toNat hc (by omega)
   refine ⟨⟨v1,v2,by simpa using v3,fun x hx=>?_,nodup_set v5 hm⟩,by rw [List.length_set,s1,v6],fun h=>by simp at h; omega,fun h=>?_⟩
   ·rcases mem_set hx with rfl | hx
    ·exact hk
    ·exact v4 x hx
   ·have:=Nat.mod_lt ((sweep (used.length+1) used hand.toNat).2+1) (show keys.length > 0 by omega)
    simp only [List.length_set]; omega
def rmK (l:LI) (key:Int):LI:=l.filter (fun x=>x != key)
def recM (l:LI) (room key:Int):LI:=(key :: rmK l key).take room.toNat
theorem mem_rmK {l:LI} {key x:Int}:x∈rmK l key↔x∈l∧x≠key:=by simp [rmK]
theorem rmK_not {l:LI} {key:Int} (h:key ∉ l):rmK l key=l:=by
 unfold rmK
 rw [List.filter_eq_self]
 intro x hx
 have:x≠key:=fun e=>h (e ▸ hx)
 simpa using this
theorem rmK_nodup {l:LI} {key:Int} (h:l.Nodup):(rmK l key).Nodup:=List.Pairwise.filter _ h
theorem rmK_le {l:LI} {key:Int}:(rmK l key).length≤l.length:=List.length_filter_le _ _
theorem rmK_cons_ne {l:LI} {key x:Int} (h:x≠key):rmK (x :: l) key=x :: rmK l key:=by
 unfold rmK; rw [List.filter_cons_of_pos (by simpa using h)]
theorem rmK_cons_eq {l:LI} {key:Int}:rmK (key :: l) key=rmK l key:=by
 unfold rmK; rw [List.filter_cons_of_neg (by simp)]
theorem rmK_erase:∀ {l:LI} {key:Int} {j:Nat},l.Nodup→l[j]?=some key→l.take j++l.drop (j+1)=rmK l key
 | [],_,_,_,h=>by simp at h
 | x :: r,key,0,hn,h=>by
  have e:x=key:=by simpa using h
  subst e
  rw [rmK_cons_eq,rmK_not (List.nodup_cons.1 hn).1]; rfl
 | x :: r,key,j+1,hn,h=>by
  have h':r[j]?=some key:=by simpa using h
  have hne:x≠key:=fun e=>(List.nodup_cons.1 hn).1 (e ▸ List.mem_of_getElem? h')
  rw [rmK_cons_ne hne,← rmK_erase (List.nodup_cons.1 hn).2 h']; rfl
theorem rmK_len {l:LI} {key:Int} (hn:l.Nodup) (h:key∈l):(rmK l key).length+1=l.length:=by
 obtain ⟨j,hj,he⟩:=List.getElem_of_mem h
 have h2:l[j]?=some key:=by rw [List.getElem?_eq_getElem hj,he]
 rw [← rmK_erase hn h2]; simp; omega
theorem take_nodup {l:LI} {n:Nat} (h:l.Nodup):(l.take n).Nodup:=List.Pairwise.sublist (List.take_sublist n l) h
theorem recM_hit {l:LI} {room key:Int} (hn:l.Nodup) (hl:(l.length:Int)≤room) (h:key∈l):recM l room key=key :: rmK l key:=by
 have:=rmK_len hn h
 exact List.take_of_length_le (by simp; omega)
theorem recM_miss {l:LI} {room key:Int} (h:key ∉ l):recM l room key=(key :: l).take room.toNat:=by rw [recM,rmK_not h]
theorem recM_valid {l:LI} {room key:Int} (v:VKeys l room) (hk:0≤key∧key≤31):VKeys (recM l room key) room:=by
 obtain ⟨v1,v2,v3,v4,v5⟩:=v
 refine ⟨v1,v2,by simp only [recM,List.length_take]; omega,fun x hx=>?_,take_nodup ?_⟩
 ·rcases List.mem_cons.1 (List.mem_of_mem_take hx) with rfl | h
  ·exact hk
  ·exact v4 x (mem_rmK.1 h).1
 ·exact List.nodup_cons.2 ⟨fun h=>(mem_rmK.1 h).2 rfl,rmK_nodup v5⟩
theorem recM_head {l:LI} {room key:Int} (h:1≤room):recM l room key=key :: (rmK l key).take (room.toNat - 1):=by
 obtain ⟨n,hn⟩:∃ n,room.toNat=n+1:=⟨room.toNat - 1,by omega⟩
 rw [recM,hn]; simp
def VSegs (trial safe:Int) (new old:LI):Prop:=VKeys new trial∧VKeys old safe∧∀ x∈new,x ∉ old
def segM (trial safe:Int) (new old:LI) (key:Int):LI×LI×Bool:=
 if key∈old then (new,key :: rmK old key,true)
 else if key∈new then ((if (old.length:Int)=safe then [old.getD (old.length - 1) 0] else [])++rmK new key,(key :: old).take safe.toNat,true)
 else ((key :: new).take trial.toNat,old,false)
theorem segM_valid {trial safe:Int} {new old:LI} {key:Int} (v:VSegs trial safe new old) (hk:0≤key∧key≤31) :
  VSegs trial safe (segM trial safe new old key).1 (segM trial safe new old key).2.1:=by
 obtain ⟨vn,vo,vd⟩:=v
 obtain ⟨n1,n2,n3,n4,n5⟩:=vn
 obtain ⟨o1,o2,o3,o4,o5⟩:=vo
 unfold segM
 split
 ·rename_i h
  refine ⟨⟨n1,n2,n3,n4,n5⟩,?_,fun x hx hx2=>?_⟩
  ·rw [← recM_hit o5 o3 h]; exact recM_valid ⟨o1,o2,o3,o4,o5⟩ hk
  ·rcases List.mem_cons.1 hx2 with rfl | h2
   ·exact vd _ hx h
   ·exact vd _ hx (mem_rmK.1 h2).1
 ·rename_i h
  split
  ·rename_i hn
   have hlen:=rmK_len n5 hn
   have hvo:VKeys ((key :: old).take safe.toNat) safe:=by rw [← recM_miss h]; exact recM_valid ⟨o1,o2,o3,o4,o5⟩ hk
   split
   ·rename_i hs
    have hlo:old.length≠0:=by omega
    have hl:old[old.length - 1]?=some (old.getD (old.length - 1) 0):=by
     rw [List.getElem?_eq_getElem (by omega)]; simp [List.getD,List.getElem?_eq_getElem (show old.length - 1 < old.length by omega)]
    have hlm:=List.mem_of_getElem? hl
    refine ⟨⟨n1,n2,by simp; omega,fun x hx=>?_,?_⟩,hvo,fun x hx hx2=>?_⟩
    ·rcases List.mem_append.1 hx with h1 | h1
     ·have e:=List.mem_singleton.1 h1; rw [e]; exact o4 _ hlm
     ·exact n4 x (mem_rmK.1 h1).1
    ·rw [List.nodup_append]
     refine ⟨by simp,rmK_nodup n5,fun a ha b hb e=>?_⟩
     have e2:=List.mem_singleton.1 ha
     subst e; rw [e2] at hb
     exact vd _ (mem_rmK.1 hb).1 hlm
    ·obtain ⟨s,hs2⟩:∃ s,safe.toNat=s+1:=⟨safe.toNat - 1,by omega⟩
     rw [hs2,List.take_succ_cons] at hx2
     rcases List.mem_append.1 hx with h1 | h1
     ·have e:=List.mem_singleton.1 h1
      rcases List.mem_cons.1 hx2 with e2 | h2
      ·exact h (by rw [← e2,e]; exact hlm)
      ·obtain ⟨i,hi,hie⟩:=List.getElem_of_mem h2
       rw [List.length_take] at hi
       rw [List.getElem_take] at hie
       have hlt:old.length - 1 < old.length:=by omega
       refine List.pairwise_iff_getElem.1 o5 i (old.length - 1) (by omega) hlt (by omega) ?_
       rw [hie,e]; simp [List.getD,List.getElem?_eq_getElem hlt]
     ·obtain ⟨h3,h4⟩:=mem_rmK.1 h1
      rcases List.mem_cons.1 hx2 with e2 | h2
      ·exact h4 e2
      ·exact vd _ h3 (List.mem_of_mem_take h2)
   ·refine ⟨⟨n1,n2,by simp; omega,fun x hx=>n4 x (mem_rmK.1 (by simpa using hx)).1,by simpa using rmK_nodup n5⟩,hvo,fun x hx hx2=>?_⟩
    have hx:=mem_rmK.1 (show x∈rmK new key by simpa using hx)
    rcases List.mem_cons.1 (List.mem_of_mem_take hx2) with e | h2
    ·exact hx.2 e
    ·exact vd _ hx.1 h2
  ·rename_i hn
   refine ⟨?_,⟨o1,o2,o3,o4,o5⟩,fun x hx hx2=>?_⟩
   ·rw [← recM_miss hn]; exact recM_valid ⟨n1,n2,n3,n4,n5⟩ hk
   ·rcases List.mem_cons.1 (List.mem_of_mem_take hx) with rfl | h2
    ·exact h hx2
    ·exact vd _ h2 hx2
theorem nodup_le:∀ {a b:LI},a.Nodup→(∀ x∈a,x∈b)→a.length≤b.length
 | [],_,_,_=>Nat.zero_le _
 | x :: r,b,hn,hs=>by
  have hx:x∈b:=hs x List.mem_cons_self
  have h1:=nodup_le (a:=r) (b:=b.erase x) (List.nodup_cons.1 hn).2 (fun y hy=>by
   have hne:y≠x:=fun e=>(List.nodup_cons.1 hn).1 (e ▸ hy)
   exact (List.mem_erase_of_ne hne).2 (hs y (List.mem_cons_of_mem _ hy)))
  rw [List.length_erase_of_mem hx] at h1
  have:=List.length_pos_of_mem hx
  simp; omega
theorem take_min1 {α:Type} {L:List α} {room:Int}:L.take (if (L.length:Int) < room then (L.length:Int) else room).toNat=L.take room.toNat:=by
 split
 ·rw [List.take_of_length_le (by omega),List.take_of_length_le (by omega)]
 ·rfl
theorem take_min2 {α:Type} {L:List α} {room:Int}:L.take (if room < (L.length:Int) then room else (L.length:Int)).toNat=L.take room.toNat:=by
 split
 ·rfl
 ·rw [List.take_of_length_le (by omega),List.take_of_length_le (by omega)]
theorem br_nt {A B:Prop} (h:B):br (!true) A B:=h
theorem br_nf {A B:Prop} (h:A):br (!false) A B:=h
theorem br_same' {b:Int} {A B:Prop} (h:B):br (b != b) A B:=by rw [bne_self_eq_false]; exact h
theorem tick_hit {room:Int} {keys:LI} {used:List Bool} {hand key:Int}:(tickM room keys used hand key).2.2.2=decide (key∈keys):=by
 unfold tickM
 split
 ·rename_i h; simp [h]
 ·rename_i h; split <;> simp [h]
theorem tick_in {room:Int} {keys:LI} {used:List Bool} {hand key:Int} (v:VClock room keys used hand):key∈(tickM room keys used hand key).1:=by
 obtain ⟨⟨v1,v2,v3,v4,v5⟩,v6,v7,v8⟩:=v
 unfold tickM
 split
 ·rename_i h; exact h
 ·split
  ·simp
  ·obtain ⟨w1,w2⟩:=v8 (by omega)
   obtain ⟨_,s2,_,_⟩:=sweep_ok (used.length+1) used hand.toNat (Nat.lt_succ_of_le List.count_le_length) (by omega)
   exact List.mem_of_getElem? (i:=(sweep (used.length+1) used hand.toNat).2) (by rw [List.getElem?_set_self (by omega)])
theorem getD_of {l:LI} {i:Nat} {x d:Int} (h:l[i]?=some x):l.getD i d=x:=by rw [List.getD_eq_getElem?_getD,h]; rfl
theorem some_of {l:LI} {i:Nat} {d:Int} (h:i < l.length):l[i]?=some (l.getD i d):=by
 rw [List.getD_eq_getElem?_getD,List.getElem?_eq_getElem h]; rfl
theorem nodup_at {l:LI} {i j:Nat} {x:Int} (hn:l.Nodup) (hi:l[i]?=some x) (hj:l[j]?=some x):i=j:=by
 obtain ⟨a,ha⟩:=List.getElem?_eq_some_iff.1 hi
 obtain ⟨b,hb⟩:=List.getElem?_eq_some_iff.1 hj
 rcases Nat.lt_trichotomy i j with h | h | h
 ·exact absurd (ha.trans hb.symm) (List.pairwise_iff_getElem.1 hn i j a b h)
 ·exact h
 ·exact absurd (hb.trans ha.symm) (List.pairwise_iff_getElem.1 hn j i b a h)
def VTrace (t:LI):Prop:=t.length≤24∧∀ x∈t,0≤x∧x≤31
def toI (b:Bool):Int:=if b then 1 else 0
theorem toI_01 (b:Bool):0≤toI b∧toI b≤1:=by cases b <;> decide
def runC (room:Int):LI→LI→List Bool→Int→Int→LI×List Bool×Int×Int
 | [],ks,us,h,n=>(ks,us,h,n)
 | x :: r,ks,us,h,n=>runC room r (tickM room ks us h x).1 (tickM room ks us h x).2.1 (tickM room ks us h x).2.2.1 (n+toI (tickM room ks us h x).2.2.2)
theorem clock0 {room:Int} (h:1≤room∧room≤8):VClock room [] [] 0:=
 ⟨⟨h.1,h.2,by simp; omega,by simp,by simp⟩,rfl,fun _=>rfl,fun h=>by simp at h; omega⟩
theorem mem_getD {l:LI} {i:Nat} (h:i < l.length):l.getD i 0∈l:=List.mem_of_getElem? (some_of h)
def runS (trial safe:Int):LI→LI→LI→Int→LI×LI×Int
 | [],a,b,n=>(a,b,n)
 | x :: r,a,b,n=>runS trial safe r (segM trial safe a b x).1 (segM trial safe a b x).2.1 (n+toI (segM trial safe a b x).2.2)
theorem segs0 {trial safe:Int} (h:1≤trial∧trial≤8) (g:1≤safe∧safe≤8):VSegs trial safe [] []:=
 ⟨⟨h.1,h.2,by simp; omega,by simp,by simp⟩,⟨g.1,g.2,by simp; omega,by simp,by simp⟩,by simp⟩
theorem segM_hit {trial safe:Int} {new old:LI} {key:Int}:(segM trial safe new old key).2.2=decide (key∈new∨key∈old):=by
 unfold segM
 split
 ·rename_i h; simp [h]
 ·rename_i h
  split
  ·rename_i g; simp [g]
  ·rename_i g; simp [h,g]
theorem segM_old {trial safe:Int} {new old:LI} {key:Int} (hs:1≤safe) (h:key∈new∨key∈old):∃ r,(segM trial safe new old key).2.1=key :: r:=by
 unfold segM
 split
 ·exact ⟨_,rfl⟩
 ·rename_i g
  rw [if_pos (h.resolve_right g)]
  obtain ⟨n,hn⟩:∃ n,safe.toNat=n+1:=⟨safe.toNat - 1,by omega⟩
  exact ⟨old.take n,by simp only [hn,List.take_succ_cons]⟩
theorem segM_miss {trial safe:Int} {new old:LI} {key:Int} (h:¬ (key∈new∨key∈old)):segM trial safe new old key=((key :: new).take trial.toNat,old,false):=by
 unfold segM
 rw [if_neg (fun g=>h (.inr g)),if_neg (fun g=>h (.inl g))]
theorem segM_sub {trial safe:Int} {new old:LI} {key x:Int} (h:x∈(segM trial safe new old key).1∨x∈(segM trial safe new old key).2.1) (hv:(old.length:Int)=safe→old≠[]):x=key∨x∈new∨x∈old:=by
 revert h
 unfold segM
 split
 ·intro h
  rcases h with h | h
  ·exact .inr (.inl h)
  ·rcases List.mem_cons.1 h with h | h
   ·exact .inl h
   ·exact .inr (.inr (mem_rmK.1 h).1)
 ·split
  ·intro h
   rcases h with h | h
   ·rcases List.mem_append.1 h with h | h
    ·split at h
     ·rename_i hs
      have:=hv hs
      rw [List.mem_singleton] at h
      rw [h]
      exact .inr (.inr (mem_getD (by have:=List.length_pos_iff.2 this; omega)))
     ·cases h
    ·exact .inr (.inl (mem_rmK.1 h).1)
   ·rcases List.mem_cons.1 (List.mem_of_mem_take h) with h | h
    ·exact .inl h
    ·exact .inr (.inr h)
  ·intro h
   rcases h with h | h
   ·rcases List.mem_cons.1 (List.mem_of_mem_take h) with h | h
    ·exact .inl h
    ·exact .inr (.inl h)
   ·exact .inr (.inr h)
theorem vsegs_ne {trial safe:Int} {a b:LI} (v:VSegs trial safe a b):(b.length:Int)=safe→b≠[]:=fun h e=>by
 have:=v.2.1.1; rw [e] at h; simp at h; omega
def outN (a l:LI):Nat:=(l.filter (fun x=>!decide (x∈a))).length
theorem outN_cons {a l:LI} {x:Int}:outN a (x :: l)=(if x∈a then 0 else 1)+outN a l:=by
 unfold outN
 by_cases h:x∈a
 ·rw [List.filter_cons_of_neg (by simp [h]),if_pos h]; omega
 ·rw [List.filter_cons_of_pos (by simp [h]),if_neg h,List.length_cons]; omega
theorem outN_append {a l r:LI}:outN a (l++r)=outN a l+outN a r:=by simp [outN]
theorem outN_zero {a l:LI} (h:∀ x∈l,x∈a):outN a l=0:=by
 unfold outN
 rw [List.length_eq_zero_iff,List.filter_eq_nil_iff]
 intro x hx
 simp [h x hx]
theorem outN_le {a l:LI}:outN a l≤l.length:=List.length_filter_le _ _
theorem segM_keep {trial safe:Int} {new old:LI} {key:Int} (v:VSegs trial safe new old) :
  ((segM trial safe new old key).2.2=true→outN ((segM trial safe new old key).2.1++(segM trial safe new old key).1) (old++new)=0)∧
  ((segM trial safe new old key).2.2=false→outN ((segM trial safe new old key).2.1++(segM trial safe new old key).1) (old++new)≤1∧(segM trial safe new old key).2.1=old):=by
 obtain ⟨⟨n1,n2,n3,n4,n5⟩,⟨o1,o2,o3,o4,o5⟩,vd⟩:=v
 unfold segM
 split
 ·refine ⟨fun _=>outN_zero fun x hx=>?_,fun h=>by cases h⟩
  by_cases e:x=key
  ·subst e; simp
  ·rcases List.mem_append.1 hx with h | h
   ·exact List.mem_append.2 (.inl (List.mem_cons_of_mem _ (mem_rmK.2 ⟨h,e⟩)))
   ·exact List.mem_append.2 (.inr h)
 ·rename_i ho
  obtain ⟨s,hs⟩:∃ n,safe.toNat=n+1:=⟨safe.toNat - 1,by omega⟩
  split
  ·refine ⟨fun _=>outN_zero fun x hx=>?_,fun h=>by cases h⟩
   dsimp only
   rw [hs,List.take_succ_cons]
   by_cases e:x=key
   ·subst e; simp
   ·rcases List.mem_append.1 hx with h | h
    ·rw [← List.take_append_drop s old] at h
     rcases List.mem_append.1 h with h | h
     ·exact List.mem_append.2 (.inl (List.mem_cons_of_mem _ h))
     ·have hl:(old.length:Int)=safe:=by
       have:=List.length_pos_of_mem h
       rw [List.length_drop] at this; omega
      rw [if_pos hl]
      have h2:old.drop s=[old.getD (old.length - 1) 0]:=by
       have hlt:s < old.length:=by omega
       rw [List.drop_eq_getElem_cons hlt,List.drop_eq_nil_of_le (by omega)]
       have:old.length - 1=s:=by omega
       rw [this]; simp [List.getD,hlt]
      rw [h2] at h
      exact List.mem_append.2 (.inr (List.mem_append.2 (.inl h)))
    ·exact List.mem_append.2 (.inr (List.mem_append.2 (.inr (mem_rmK.2 ⟨h,e⟩))))
  ·refine ⟨fun h=>(by cases h),fun _=>⟨?_,rfl⟩⟩
   dsimp only
   obtain ⟨r,hr⟩:∃ n,trial.toNat=n+1:=⟨trial.toNat - 1,by omega⟩
   rw [hr,List.take_succ_cons,outN_append,outN_zero (l:=old) (fun x hx=>List.mem_append.2 (.inl hx))]
   have hd:new=new.take r++new.drop r:=(List.take_append_drop r new).symm
   have h1:outN (old++key :: new.take r) new=outN (old++key :: new.take r) (new.take r)+outN (old++key :: new.take r) (new.drop r):=by
    rw [← outN_append,← hd]
   rw [h1,outN_zero (l:=new.take r) (fun x hx=>List.mem_append.2 (.inr (List.mem_cons_of_mem _ hx)))]
   have:=@outN_le (old++key :: new.take r) (new.drop r)
   rw [List.length_drop] at this
   omega
theorem segM_in {trial safe:Int} {new old:LI} {key:Int} (ht:1≤trial) (hs:1≤safe):key∈(segM trial safe new old key).1∨key∈(segM trial safe new old key).2.1:=by
 by_cases h:key∈new∨key∈old
 ·obtain ⟨r,hr⟩:=segM_old (trial:=trial) hs h
  exact .inr (by rw [hr]; exact List.mem_cons_self)
 ·obtain ⟨n,hn⟩:∃ n,trial.toNat=n+1:=⟨trial.toNat - 1,by omega⟩
  rw [segM_miss h]
  exact .inl (by simp only [hn,List.take_succ_cons]; exact List.mem_cons_self)
theorem take_set_succ {α:Type} {l:List α} {i:Nat} {x:α} (h:i < l.length):(l.set i x).take (i+1)=l.take i++[x]:=by
 rw [List.take_succ_eq_append_getElem (by simpa using h),List.take_set_of_le (Nat.le_refl _)]; simp
def runR (room:Int):LI→LI→Int→LI×Int
 | [],l,n=>(l,n)
 | x :: r,l,n=>runR room r (recM l room x) (n+toI (decide (x∈l)))
theorem keys0 {room:Int} (h:1≤room∧room≤8):VKeys [] room:=⟨h.1,h.2,by simp; omega,by simp,by simp⟩
def firM (l:LI) (room key:Int):LI:=if key∈l then l else (l++[key]).drop (l.length+1 - room.toNat)
theorem firM_valid {l:LI} {room key:Int} (v:VKeys l room) (hk:0≤key∧key≤31):VKeys (firM l room key) room:=by
 unfold firM
 split
 ·exact v
 ·rename_i hm
  obtain ⟨v1,v2,v3,v4,v5⟩:=v
  refine ⟨v1,v2,by simp; omega,fun x hx=>?_,?_⟩
  ·rcases List.mem_append.1 (List.mem_of_mem_drop hx) with h | h
   ·exact v4 x h
   ·rw [List.mem_singleton.1 h]; exact hk
  ·refine List.Pairwise.sublist (List.drop_sublist _ _) ?_
   exact List.nodup_append.2 ⟨v5,by simp,fun a ha b hb e=>hm (by rw [← List.mem_singleton.1 hb,← e]; exact ha)⟩
def runF (room:Int):LI→LI→Int→LI×Int
 | [],l,n=>(l,n)
 | x :: r,l,n=>runF room r (firM l room x) (n+toI (decide (x∈l)))
theorem vkeys_len {l:LI} {room:Int} (v:VKeys l room):l.length≤8:=by
 have:=v.2.1; have:=v.2.2.1; omega
def usedR:LI→LI→LI
 | D,[]=>D
 | D,x :: r=>usedR (x :: rmK D x) r
abbrev Ent:=Int×Int×Int
def EntR (e:Ent):Prop:=(0≤e.1∧e.1≤31)∧(1≤e.2.1∧e.2.1≤100)∧0≤e.2.2∧e.2.2≤1000
def VEnt (l:List Ent) (room:Int):Prop:=
 (1≤room∧room≤8)∧(l.length:Int)≤room∧(∀ e∈l,EntR e)∧(l.map (·.1)).Nodup∧(l.map (·.2.2)).Nodup
def PEnt (l:List Ent):Prop:=(∀ e∈l,EntR e)∧(l.map (·.1)).Nodup∧(l.map (·.2.2)).Nodup
theorem PEnt.snoc {l:List Ent} {x:Ent} (h:PEnt l) (hx:EntR x) (hn:∀ e∈l,e.1≠x.1∧e.2.2≠x.2.2):PEnt (l++[x]):=by
 refine ⟨fun e he=>?_,?_,?_⟩
 ·rcases List.mem_append.1 he with h1 | h1
  ·exact h.1 e h1
  ·rw [List.mem_singleton.1 h1]; exact hx
 ·rw [List.map_append,List.nodup_append]
  refine ⟨h.2.1,by simp,fun a ha b hb e=>?_⟩
  obtain ⟨y,hy,rfl⟩:=List.mem_map.1 ha
  rw [List.map_singleton,List.mem_singleton] at hb
  exact (hn y hy).1 (by rw [← hb]; exact e)
 ·rw [List.map_append,List.nodup_append]
  refine ⟨h.2.2,by simp,fun a ha b hb e=>?_⟩
  obtain ⟨y,hy,rfl⟩:=List.mem_map.1 ha
  rw [List.map_singleton,List.mem_singleton] at hb
  exact (hn y hy).2 (by rw [← hb]; exact e)
abbrev ent0:Ent:=((0:Int),(0:Int),(0:Int))
def Rar (a b:Ent):Prop:=a.2.1 < b.2.1∨a.2.1=b.2.1∧a.2.2 < b.2.2
instance (a b:Ent):Decidable (Rar a b):=by unfold Rar; infer_instance
theorem Rar.trans {a b c:Ent} (h:Rar a b) (g:Rar b c):Rar a c:=by unfold Rar at *; omega
def rareS (l:List Ent):List Ent→Nat→Nat→Nat
 | [],_,p=>p
 | e :: r,i,p=>rareS l r (i+1) (if Rar e (l.getD p ent0) then i else p)
def rareM (l:List Ent):Nat:=rareS l (l.drop 1) 1 0
theorem rareS_ok {l:List Ent}:∀ (r:List Ent) (i p:Nat),l.drop i=r→p < i→i≤l.length→(∀ j,j < i→¬ Rar (l.getD j ent0) (l.getD p ent0))→
  rareS l r i p < l.length∧∀ j,j < l.length→¬ Rar (l.getD j ent0) (l.getD (rareS l r i p) ent0)
 | [],i,p,hd,hp,hi,ha=>by
  have:=drop_nil' hd
  exact ⟨by simp only [rareS]; omega,fun j hj=>ha j (by omega)⟩
 | e :: r,i,p,hd,hp,hi,ha=>by
  obtain ⟨h1,h2,_,h3,_⟩:=drop_cons' hd
  rw [rareS]
  split
  ·rename_i hr
   refine rareS_ok r (i+1) i h3 (by omega) (by omega) fun j hj g=>?_
   rw [h2] at g
   by_cases e1:j=i
   ·subst e1; rw [h2] at g; unfold Rar at g; omega
   ·exact ha j (by omega) (g.trans hr)
  ·rename_i hr
   refine rareS_ok r (i+1) p h3 (by omega) (by omega) fun j hj g=>?_
   by_cases e1:j=i
   ·subst e1; rw [h2] at g; exact hr g
   ·exact ha j (by omega) g
theorem rareM_ok {l:List Ent} (h:l≠[]):rareM l < l.length∧∀ j,j < l.length→¬ Rar (l.getD j ent0) (l.getD (rareM l) ent0):=by
 have hl:=List.length_pos_iff.2 h
 exact rareS_ok _ 1 0 rfl (by omega) (by omega) fun j hj g=>by
  have:j=0:=by omega
  subst this; unfold Rar at g; omega
def entAt (l:List Ent) (key:Int):Int:=plc (l.map (·.1)) key
def oftM (l:List Ent) (room key now:Int):List Ent×Bool:=
 if key∈l.map (·.1) then (l.set (entAt l key).toNat (key,(if (l.getD (entAt l key).toNat ent0).2.1+1 < 100 then (l.getD (entAt l key).toNat ent0).2.1+1 else 100),now),true)
 else ((if (l.length:Int)=room then l.eraseIdx (rareM l) else l)++[(key,1,now)],false)
theorem map_eraseIdx' {α β:Type} (f:α→β):∀ (l:List α) (i:Nat),(l.eraseIdx i).map f=(l.map f).eraseIdx i
 | [],_=>rfl
 | _ :: _,0=>rfl
 | x :: r,i+1=>by simp [List.eraseIdx,map_eraseIdx' f r i]
theorem nodup_set' {l:LI} {i:Nat} {x:Int} (hn:l.Nodup) (hi:l[i]?=some x):l.set i x=l:=by
 obtain ⟨h,e⟩:=List.getElem?_eq_some_iff.1 hi
 rw [← e]; exact List.set_getElem_self h
theorem oftM_valid {l:List Ent} {room key now:Int} (v:VEnt l room) (hk:0≤key∧key≤31) (hn:∀ e∈l,e.2.2 < now) (h0:0≤now∧now≤1000):VEnt (oftM l room key now).1 room:=by
 obtain ⟨v1,v2,v3,v4,v5⟩:=v
 unfold oftM
 split
 ·rename_i hm
  obtain ⟨j,j1,j2,_,j3⟩:=plc_pos hm
  have hj:(entAt l key).toNat=j:=by unfold entAt; rw [j3]; omega
  rw [hj]
  rw [List.length_map] at j1
  have hg:l[j]?=some (l.getD j ent0):=by rw [List.getD_eq_getElem?_getD,List.getElem?_eq_getElem j1]; rfl
  have hgm:=List.mem_of_getElem? hg
  have hr:=v3 _ hgm
  refine ⟨v1,by simpa using v2,fun e he=>?_,?_,?_⟩
  ·rcases List.mem_or_eq_of_mem_set he with h | h
   ·exact v3 e h
   ·subst h
    refine ⟨hk,⟨?_,?_⟩,h0.1,h0.2⟩
    ·unfold EntR at hr; dsimp only; split <;> omega
    ·dsimp only; split <;> omega
  ·show ((l.set j _).map (·.1)).Nodup
   rw [List.map_set,nodup_set' v4 j2]; exact v4
  ·show ((l.set j _).map (·.2.2)).Nodup
   rw [List.map_set]
   refine nodup_set v5 fun h=>?_
   obtain ⟨e,he,h⟩:=List.mem_map.1 h
   have:=hn e he
   simp only at h; omega
 ·rename_i hm
  have hcut:∀ l':List Ent,l'.Sublist l→(l'.length:Int)+1≤room→VEnt (l'++[(key,1,now)]) room:=by
   intro l' hs hlen
   refine ⟨v1,by simp; omega,fun e he=>?_,?_,?_⟩
   ·rcases List.mem_append.1 he with h | h
    ·exact v3 e (hs.subset h)
    ·rw [List.mem_singleton.1 h]; exact ⟨hk,⟨by show (1:Int)≤1; omega,by show (1:Int)≤100; omega⟩,h0.1,h0.2⟩
   ·rw [List.map_append,List.nodup_append]
    refine ⟨List.Pairwise.sublist (hs.map _) v4,by simp,fun a ha b hb e=>hm ?_⟩
    rw [List.mem_singleton.1 hb] at e
    rw [← show a=key from e]; exact (hs.map _).subset ha
   ·rw [List.map_append,List.nodup_append]
    refine ⟨List.Pairwise.sublist (hs.map _) v5,by simp,fun a ha b hb e=>?_⟩
    rw [List.mem_singleton.1 hb] at e
    obtain ⟨x,hx,h⟩:=List.mem_map.1 ((hs.map _).subset ha)
    have:=hn x hx
    simp only at h e; omega
  show VEnt ((if (l.length:Int)=room then l.eraseIdx (rareM l) else l)++[(key,1,now)]) room
  split
  ·rename_i hf
   have hne:l≠[]:=fun e=>by rw [e] at hf; simp at hf; omega
   have:=(rareM_ok hne).1
   exact hcut _ (List.eraseIdx_sublist l _) (by rw [List.length_eraseIdx_of_lt this]; omega)
  ·exact hcut l (List.Sublist.refl l) (by omega)
def runO (room:Int):LI→List Ent→Int→Int→List Ent×Int
 | [],l,_,n=>(l,n)
 | x :: r,l,now,n=>runO room r (oftM l room x now).1 (now+1) (n+toI (oftM l room x now).2)
theorem oftM_last {l:List Ent} {room key now:Int} (hn:∀ e∈l,e.2.2 < now):∀ e∈(oftM l room key now).1,e.2.2 < now+1:=by
 intro e he
 unfold oftM at he
 split at he
 ·rcases List.mem_or_eq_of_mem_set he with h | h
  ·have:=hn e h; omega
  ·subst h; show now < now+1; omega
 ·rcases List.mem_append.1 he with h | h
  ·split at h
   ·have:=hn e (List.mem_of_mem_eraseIdx h); omega
   ·have:=hn e h; omega
  ·rw [List.mem_singleton.1 h]; show now < now+1; omega
def LatE (l:List Ent) (now:Int):Prop:=(∀ e∈l,e.2.2 < now)∧0≤now∧now≤1000
theorem min_100 {c:Int}:(if 100 < c then (100:Int) else c)=if c < 100 then c else 100:=by
 split <;> split <;> omega
theorem cut_erase {α:Type} {l:List α} {i:Nat} (h:i < l.length):List.take (Int.toNat (i:Int)) (List.drop 0 l)++List.take (l.length - Int.toNat ((i:Int)+1)) (List.drop (Int.toNat ((i:Int)+1)) l)=l.eraseIdx i:=by
 rw [Int.toNat_natCast,show ((i:Int)+1).toNat=i+1 by omega,List.drop_zero,List.eraseIdx_eq_take_drop_succ,List.take_of_length_le (l:=l.drop (i+1)) (by simp)]
def VUse (l:List Ent) (room key now:Int):Prop:=VEnt l room∧(0≤key∧key≤31)∧LatE l now
theorem ent_nil {room:Int} (h:1≤room∧room≤8):VEnt [] room:=⟨h,by simp; omega,by simp,by simp,by simp⟩
theorem eq3 {x y:Ent}:((x.1==y.1) && ((x.2.1==y.2.1) && (x.2.2==y.2.2)))=decide (x=y):=by
 obtain ⟨a,b,c⟩:=x; obtain ⟨d,e,f⟩:=y
 rw [Bool.eq_iff_iff]; simp
theorem nodup_count:∀ {l:LI},l.Nodup↔∀ x,l.count x≤1
 | []=>by simp
 | y :: r=>by
  rw [List.nodup_cons,nodup_count (l:=r)]
  constructor
  ·intro ⟨h1,h2⟩ x
   rw [List.count_cons]
   by_cases e:y=x
   ·subst e; rw [List.count_eq_zero_of_not_mem h1]; simp
   ·rw [if_neg (by simpa using e)]; have:=h2 x; omega
  ·intro h
   refine ⟨fun hm=>?_,fun x=>?_⟩
   ·have:=h y
    rw [List.count_cons_self] at this
    have:=List.count_pos_iff.2 hm
    omega
   ·have:=h x
    rw [List.count_cons] at this; omega
def D4 (o f wo wf:LI):Prop:=∀ x,o.count x+f.count x+wo.count x+wf.count x≤1
theorem D4_nodup {o f wo wf:LI}:(((o++f)++wo)++wf).Nodup↔D4 o f wo wf:=by
 rw [nodup_count]; unfold D4; simp only [List.count_append]
theorem count_mem {l:LI} {x:Int}:x∈l↔0 < l.count x:=List.count_pos_iff.symm
theorem count_not {l:LI} {x:Int}:x ∉ l↔l.count x=0:=List.count_eq_zero.symm
theorem count_rm {l:LI} {key x:Int}:(rmK l key).count x=if x=key then 0 else l.count x:=by
 split
 ·rename_i e; subst e; exact List.count_eq_zero_of_not_mem fun h=>(mem_rmK.1 h).2 rfl
 ·rename_i e; exact List.count_filter (by simpa using e)
theorem count_con {l:LI} {key x:Int}:(key :: l).count x=l.count x+if x=key then 1 else 0:=by
 rw [List.count_cons]
 by_cases e:x=key
 ·subst e; simp
 ·rw [if_neg (by simpa using (Ne.symm e)),if_neg e]
def lastI (l:LI):Int:=l.getD (l.length - 1) 0
theorem last_split {l:LI} (h:0 < l.length):l.take (l.length - 1)++[lastI l]=l:=by
 have h2:l.length - 1 < l.length:=by omega
 have h3:lastI l=l[l.length - 1]:=by simp [lastI,List.getD,h2]
 rw [h3,← List.take_succ_eq_append_getElem h2,show l.length - 1+1=l.length by omega,List.take_length]
theorem count_last {l:LI} (h:0 < l.length) (x:Int):(l.take (l.length - 1)).count x+(if x=lastI l then 1 else 0)=l.count x:=by
 have:=congrArg (List.count x) (last_split h)
 rw [List.count_append,count_con] at this
 simpa using this
theorem len_last {l:LI}:(l.take (l.length - 1)).length=l.length - 1:=by simp
structure AL where
 t:Int
 o:LI
 f:LI
 wo:LI
 wf:LI
structure VLists (room:Int) (a:AL):Prop where
 room1:1≤room∧room≤8
 tgt:0≤a.t∧a.t≤room
 inc:(a.o.length:Int)+a.f.length≤room
 onc:(a.o.length:Int)+a.wo.length≤room
 tot:(a.o.length:Int)+a.wo.length+a.f.length+a.wf.length≤2*room
 dis:D4 a.o a.f a.wo a.wf
 rng:∀ x,x∈a.o∨x∈a.f∨x∈a.wo∨x∈a.wf→0≤x∧x≤31
def mkRoom (was:Bool) (a:AL):AL:=
 if (0 < a.o.length∧((a.o.length:Int) > a.t∨was=true∧(a.o.length:Int)=a.t))∨a.f.length=0 then { a with o:=a.o.take (a.o.length - 1),wo:=lastI a.o :: a.wo }
 else { a with f:=a.f.take (a.f.length - 1),wf:=lastI a.f :: a.wf }
def fitL (room:Int) (was:Bool) (a:AL):AL:=if (a.o.length:Int)+a.f.length=room then mkRoom was a else a
def freshL (room:Int) (a:AL) (key:Int):AL:=
 let b:=if (a.o.length:Int)+a.wo.length=room∧0 < a.wo.length then fitL room false { a with wo:=a.wo.take (a.wo.length - 1) }
  else if (a.o.length:Int)+a.wo.length=room then { a with o:=a.o.take (a.o.length - 1) }
  else fitL room false (if (a.o.length:Int)+a.wo.length+a.f.length+a.wf.length=2*room then { a with wf:=a.wf.take (a.wf.length - 1) } else a)
 { b with o:=key :: b.o }
def max1 (x:Int):Int:=if 1 < x then x else 1
def adM (room:Int) (a:AL) (key:Int):AL×Bool:=
 if key∈a.o then ({ a with o:=rmK a.o key,f:=key :: a.f },true)
 else if key∈a.f then ({ a with f:=key :: rmK a.f key },true)
 else if key∈a.wo then
  let b:=fitL room false { a with t:=(if a.t+max1 (Int.tdiv a.wf.length a.wo.length) < room then a.t+max1 (Int.tdiv a.wf.length a.wo.length) else room),wo:=rmK a.wo key }
  ({ b with f:=key :: b.f },false)
 else if key∈a.wf then
  let b:=fitL room true { a with t:=(if 0 < a.t - max1 (Int.tdiv a.wo.length a.wf.length) then a.t - max1 (Int.tdiv a.wo.length a.wf.length) else 0),wf:=rmK a.wf key }
  ({ b with f:=key :: b.f },false)
 else (freshL room a key,false)
structure Fit (room:Int) (a b:AL):Prop where
 t:b.t=a.t
 inc:(b.o.length:Int)+b.f.length < room∨(a.o.length:Int)+a.f.length < room∧b.o.length=a.o.length∧b.f.length=a.f.length
 onc:(b.o.length:Int)+b.wo.length=a.o.length+a.wo.length
 tot:b.o.length+b.wo.length+b.f.length+b.wf.length=a.o.length+a.wo.length+a.f.length+a.wf.length
 cnt:∀ x,b.o.count x+b.f.count x+b.wo.count x+b.wf.count x=a.o.count x+a.f.count x+a.wo.count x+a.wf.count x
 ole:b.o.length≤a.o.length
 keep:∃ e,∀ x,x∈a.o∨x∈a.f→x=e∨x∈b.o∨x∈b.f
 all:(a.o.length:Int)+a.f.length < room→b=a
theorem fitL_ok {room:Int} (was:Bool) {a:AL} (hr:1≤room) (h:(a.o.length:Int)+a.f.length≤room):Fit room a (fitL room was a):=by
 unfold fitL
 split
 ·rename_i hf
  unfold mkRoom
  split
  ·rename_i hc
   have hpos:0 < a.o.length:=by omega
   have hs:=last_split hpos
   refine ⟨rfl,.inl ?_,?_,?_,fun x=>?_,?_,⟨lastI a.o,fun x hx=>?_⟩,fun h=>by omega⟩
   ·simp only [len_last]; omega
   ·simp only [len_last,List.length_cons]; omega
   ·simp only [len_last,List.length_cons]; omega
   ·have:=count_last hpos x
    simp only [count_con]; omega
   ·simp only [len_last]; omega
   ·rcases hx with h | h
    ·rw [← hs] at h
     rcases List.mem_append.1 h with h | h
     ·exact .inr (.inl h)
     ·exact .inl (List.mem_singleton.1 h)
    ·exact .inr (.inr h)
  ·rename_i hc
   have hpos:0 < a.f.length:=by omega
   have hs:=last_split hpos
   refine ⟨rfl,.inl ?_,rfl,?_,fun x=>?_,Nat.le_refl _,⟨lastI a.f,fun x hx=>?_⟩,fun h=>by omega⟩
   ·simp only [len_last]; omega
   ·simp only [len_last,List.length_cons]; omega
   ·have:=count_last hpos x
    simp only [count_con]; omega
   ·rcases hx with h | h
    ·exact .inr (.inl h)
    ·rw [← hs] at h
     rcases List.mem_append.1 h with h | h
     ·exact .inr (.inr h)
     ·exact .inl (List.mem_singleton.1 h)
 ·rename_i hf
  exact ⟨rfl,.inr ⟨by omega,rfl,rfl⟩,rfl,rfl,fun _=>rfl,Nat.le_refl _,⟨0,fun x hx=>.inr hx⟩,fun _=>rfl⟩
theorem max1_pos (x:Int):1≤max1 x:=by unfold max1; split <;> omega
theorem rng_cnt {o f wo wf:LI} {x:Int}:(x∈o∨x∈f∨x∈wo∨x∈wf)↔0 < o.count x+f.count x+wo.count x+wf.count x:=by
 rw [count_mem,count_mem,count_mem,count_mem]; omega
theorem cnt_rm_add {l:LI} {key:Int} (h:l.count key=1) (x:Int):(rmK l key).count x+(if x=key then 1 else 0)=l.count x:=by
 rw [count_rm]; split
 ·rename_i e; subst e; omega
 ·omega
theorem len_rm {l:LI} {key:Int} (h:l.count key=1) (hn:∀ x,l.count x≤1):(rmK l key).length+1=l.length:=
 rmK_len (nodup_count.2 hn) (count_mem.2 (by omega))
theorem adM_valid {room:Int} {a:AL} {key:Int} (v:VLists room a) (hk:0≤key∧key≤31):VLists room (adM room a key).1:=by
 obtain ⟨r1,tg,i1,o1,t1,d1,g1⟩:=v
 have hno:∀ x,a.o.count x≤1∧a.f.count x≤1∧a.wo.count x≤1∧a.wf.count x≤1:=fun x=>by have:=d1 x; omega
 have hg:∀ x,0 < a.o.count x+a.f.count x+a.wo.count x+a.wf.count x→0≤x∧x≤31:=fun x h=>g1 x (rng_cnt.2 h)
 unfold adM
 split
 ·rename_i h
  have hc:a.o.count key=1:=by have:=count_mem.1 h; have:=hno key; omega
  have hl:=len_rm hc fun x=>(hno x).1
  have hcnt:∀ x,(rmK a.o key).count x+(key :: a.f).count x+a.wo.count x+a.wf.count x=a.o.count x+a.f.count x+a.wo.count x+a.wf.count x:=fun x=>by
   have:=cnt_rm_add hc x; rw [count_con]; omega
  refine ⟨r1,tg,?_,?_,?_,fun x=>?_,fun x hx=>hg x ?_⟩
  ·simp only [List.length_cons]; omega
  ·simp only []; omega
  ·simp only [List.length_cons]; omega
  ·have:=d1 x; have:=hcnt x; simp only []; omega
  ·have:=rng_cnt.1 hx; have:=hcnt x; simp only [] at *; omega
 ·split
  ·rename_i h0 h
   have hc:a.f.count key=1:=by have:=count_mem.1 h; have:=hno key; omega
   have hl:=len_rm hc fun x=>(hno x).2.1
   have hcnt:∀ x,a.o.count x+(key :: rmK a.f key).count x+a.wo.count x+a.wf.count x=a.o.count x+a.f.count x+a.wo.count x+a.wf.count x:=fun x=>by
    have:=cnt_rm_add hc x; rw [count_con]; omega
   refine ⟨r1,tg,?_,o1,?_,fun x=>?_,fun x hx=>hg x ?_⟩
   ·simp only [List.length_cons]; omega
   ·simp only [List.length_cons]; omega
   ·have:=d1 x; have:=hcnt x; simp only []; omega
   ·have:=rng_cnt.1 hx; have:=hcnt x; simp only [] at *; omega
  ·rename_i h1 h2
   have c1:=count_not.1 h1
   have c2:=count_not.1 h2
   split
   ·rename_i h
    have hc:a.wo.count key=1:=by have:=count_mem.1 h; have:=hno key; omega
    have hl:=len_rm hc fun x=>(hno x).2.2.1
    have hm:=max1_pos (Int.tdiv a.wf.length a.wo.length)
    generalize hb:fitL room false { a with t:=(if a.t+max1 (Int.tdiv a.wf.length a.wo.length) < room then a.t+max1 (Int.tdiv a.wf.length a.wo.length) else room),wo:=rmK a.wo key }=b
    have hF:=fitL_ok (was:=false) (a:={ a with t:=(if a.t+max1 (Int.tdiv a.wf.length a.wo.length) < room then a.t+max1 (Int.tdiv a.wf.length a.wo.length) else room),wo:=rmK a.wo key }) r1.1 i1
    rw [hb] at hF
    obtain ⟨b1,b2,b3,b4,b5,b6,b7,b8⟩:=hF
    simp only at b1 b2 b3 b4 b5 b6
    have hcnt:∀ x,b.o.count x+(key :: b.f).count x+b.wo.count x+b.wf.count x=a.o.count x+a.f.count x+a.wo.count x+a.wf.count x:=fun x=>by
     have:=cnt_rm_add hc x; have:=b5 x; rw [count_con]; omega
    refine ⟨r1,?_,?_,?_,?_,fun x=>?_,fun x hx=>hg x ?_⟩
    ·simp only [b1]; split <;> omega
    ·simp only [List.length_cons]; omega
    ·simp only []; omega
    ·simp only [List.length_cons]; omega
    ·have:=d1 x; have:=hcnt x; simp only []; omega
    ·have:=rng_cnt.1 hx; have:=hcnt x; simp only [] at *; omega
   ·rename_i h3
    have c3:=count_not.1 h3
    split
    ·rename_i h
     have hc:a.wf.count key=1:=by have:=count_mem.1 h; have:=hno key; omega
     have hl:=len_rm hc fun x=>(hno x).2.2.2
     have hm:=max1_pos (Int.tdiv a.wo.length a.wf.length)
     generalize hb:fitL room true { a with t:=(if 0 < a.t - max1 (Int.tdiv a.wo.length a.wf.length) then a.t - max1 (Int.tdiv a.wo.length a.wf.length) else 0),wf:=rmK a.wf key }=b
     have hF:=fitL_ok (was:=true) (a:={ a with t:=(if 0 < a.t - max1 (Int.tdiv a.wo.length a.wf.length) then a.t - max1 (Int.tdiv a.wo.length a.wf.length) else 0),wf:=rmK a.wf key }) r1.1 i1
     rw [hb] at hF
     obtain ⟨b1,b2,b3,b4,b5,b6,b7,b8⟩:=hF
     simp only at b1 b2 b3 b4 b5 b6
     have hcnt:∀ x,b.o.count x+(key :: b.f).count x+b.wo.count x+b.wf.count x=a.o.count x+a.f.count x+a.wo.count x+a.wf.count x:=fun x=>by
      have:=cnt_rm_add hc x; have:=b5 x; rw [count_con]; omega
     refine ⟨r1,?_,?_,?_,?_,fun x=>?_,fun x hx=>hg x ?_⟩
     ·simp only [b1]; split <;> omega
     ·simp only [List.length_cons]; omega
     ·simp only []; omega
     ·simp only [List.length_cons]; omega
     ·have:=d1 x; have:=hcnt x; simp only []; omega
     ·have:=rng_cnt.1 hx; have:=hcnt x; simp only [] at *; omega
    ·rename_i h4
     have c4:=count_not.1 h4
     have hnew:∀ b:AL,b.t=a.t→(b.o.length:Int)+b.f.length < room→(b.o.length:Int)+b.wo.length < room→(b.o.length:Int)+b.wo.length+b.f.length+b.wf.length < 2*room→
       (∀ x,b.o.count x+b.f.count x+b.wo.count x+b.wf.count x≤a.o.count x+a.f.count x+a.wo.count x+a.wf.count x)→VLists room { b with o:=key :: b.o }:=by
      intro b e1 e2 e3 e4 e5
      refine ⟨r1,by simp only [e1]; exact tg,?_,?_,?_,fun x=>?_,fun x hx=>?_⟩
      ·simp only [List.length_cons]; omega
      ·simp only [List.length_cons]; omega
      ·simp only [List.length_cons]; omega
      ·have h5:=e5 x
       have h6:=d1 x
       simp only [count_con]
       split
       ·rename_i e; subst e; omega
       ·omega
      ·have h5:=e5 x
       have h7:=rng_cnt.1 hx
       simp only [count_con] at h7
       by_cases e:x=key
       ·rw [e]; exact hk
       ·rw [if_neg e] at h7; exact hg x (by omega)
     show VLists room (freshL room a key)
     unfold freshL
     simp only []
     split
     ·rename_i hw
      have hF:=fitL_ok (was:=false) (a:={ a with wo:=a.wo.take (a.wo.length - 1) }) r1.1 i1
      generalize fitL room false { a with wo:=a.wo.take (a.wo.length - 1) }=b at hF ⊢
      obtain ⟨b1,b2,b3,b4,b5,b6,b7,b8⟩:=hF
      simp only [len_last] at b1 b2 b3 b4 b5 b6
      refine hnew b b1 (by omega) (by omega) (by omega) fun x=>?_
      have:=b5 x; have:=count_last hw.2 x; omega
     ·split
      ·rename_i hw hw2
       have hpos:0 < a.o.length:=by omega
       refine hnew { a with o:=a.o.take (a.o.length - 1) } rfl ?_ ?_ ?_ fun x=>?_
       ·simp only [len_last]; omega
       ·simp only [len_last]; omega
       ·simp only [len_last]; omega
       ·have:=count_last hpos x; simp only []; omega
      ·rename_i hw hw2
       split
       ·rename_i hw3
        have hpos:0 < a.wf.length:=by omega
        have hF:=fitL_ok (was:=false) (a:={ a with wf:=a.wf.take (a.wf.length - 1) }) r1.1 i1
        generalize fitL room false { a with wf:=a.wf.take (a.wf.length - 1) }=b at hF ⊢
        obtain ⟨b1,b2,b3,b4,b5,b6,b7,b8⟩:=hF
        simp only [len_last] at b1 b2 b3 b4 b5 b6
        refine hnew b b1 (by omega) (by omega) (by omega) fun x=>?_
        have:=b5 x; have:=count_last hpos x; omega
       ·rename_i hw3
        have hF:=fitL_ok (was:=false) (a:=a) r1.1 i1
        generalize fitL room false a=b at hF ⊢
        obtain ⟨b1,b2,b3,b4,b5,b6,b7,b8⟩:=hF
        exact hnew b b1 (by omega) (by omega) (by omega) fun x=>by have:=b5 x; omega
theorem adM_hit {room:Int} {a:AL} {key:Int}:(adM room a key).2=decide (key∈a.o∨key∈a.f):=by
 unfold adM
 split
 ·rename_i h; simp [h]
 ·rename_i h1
  split
  ·rename_i h; simp [h]
  ·rename_i h2
   split
   ·simp [h1,h2]
   ·split <;> simp [h1,h2]
theorem adM_known {room:Int} {a:AL} {key:Int} (h:key∈a.o∨key∈a.f∨key∈a.wo∨key∈a.wf):∃ r,(adM room a key).1.f=key :: r:=by
 unfold adM
 split
 ·exact ⟨_,rfl⟩
 ·rename_i h1
  split
  ·exact ⟨_,rfl⟩
  ·rename_i h2
   split
   ·exact ⟨_,rfl⟩
   ·rename_i h3
    rw [if_pos (((h.resolve_left h1).resolve_left h2).resolve_left h3)]
    exact ⟨_,rfl⟩
theorem adM_new {room:Int} {a:AL} {key:Int} (h:¬ (key∈a.o∨key∈a.f∨key∈a.wo∨key∈a.wf)):adM room a key=(freshL room a key,false):=by
 unfold adM
 rw [if_neg (fun g=>h (.inl g)),if_neg (fun g=>h (.inr (.inl g))),if_neg (fun g=>h (.inr (.inr (.inl g)))),if_neg (fun g=>h (.inr (.inr (.inr g))))]
theorem outN_one {a:LI} {e:Int}:∀ {l:LI},l.Nodup→(∀ x∈l,x=e∨x∈a)→outN a l≤1
 | [],_,_=>Nat.zero_le _
 | x :: r,hn,h=>by
  obtain ⟨h1,h2⟩:=List.nodup_cons.1 hn
  have ih:=outN_one h2 fun y hy=>h y (List.mem_cons_of_mem _ hy)
  rw [outN_cons]
  split
  ·omega
  ·rename_i hx
   have he:x=e:=(h x List.mem_cons_self).resolve_right hx
   have:outN a r=0:=outN_zero fun y hy=>(h y (List.mem_cons_of_mem _ hy)).resolve_left fun e2=>h1 (by rw [he,← e2]; exact hy)
   omega
theorem cache_nodup {room:Int} {a:AL} (v:VLists room a):(a.o++a.f).Nodup:=by
 rw [nodup_count]; intro x
 have:=v.dis x
 rw [List.count_append]; omega
theorem adM_cache {room:Int} {a:AL} {key:Int} (v:VLists room a) :
  outN ((adM room a key).1.o++(adM room a key).1.f) (a.o++a.f)≤1∧
  ((adM room a key).2=true∨(a.o.length:Int)+a.f.length≠room→outN ((adM room a key).1.o++(adM room a key).1.f) (a.o++a.f)=0):=by
 have hnd:=cache_nodup v
 have hin:∀ (b:AL),(∀ x,x∈a.o∨x∈a.f→x∈b.o∨x∈b.f)→outN (b.o++b.f) (a.o++a.f)=0:=fun b h=>
  outN_zero fun x hx=>List.mem_append.2 (h x (List.mem_append.1 hx))
 have hone:∀ (b:AL) (e:Int),(∀ x,x∈a.o∨x∈a.f→x=e∨x∈b.o∨x∈b.f)→outN (b.o++b.f) (a.o++a.f)≤1:=fun b e h=>
  outN_one (e:=e) hnd fun x hx=>(h x (List.mem_append.1 hx)).imp id List.mem_append.2
 unfold adM
 split
 ·have:=hin { a with o:=rmK a.o key,f:=key :: a.f } fun x hx=>by
   by_cases e:x=key
   ·exact .inr (by rw [e]; exact List.mem_cons_self)
   ·rcases hx with h | h
    ·exact .inl (mem_rmK.2 ⟨h,e⟩)
    ·exact .inr (List.mem_cons_of_mem _ h)
  exact ⟨by simp only [] at this ⊢; omega,fun _=>this⟩
 ·split
  ·have:=hin { a with f:=key :: rmK a.f key } fun x hx=>by
    by_cases e:x=key
    ·exact .inr (by rw [e]; exact List.mem_cons_self)
    ·rcases hx with h | h
     ·exact .inl h
     ·exact .inr (List.mem_cons_of_mem _ (mem_rmK.2 ⟨h,e⟩))
   exact ⟨by simp only [] at this ⊢; omega,fun _=>this⟩
  ·have hfit:∀ (was:Bool) (c:AL),c.o=a.o→c.f=a.f→
     outN ((fitL room was c).o++(key :: (fitL room was c).f)) (a.o++a.f)≤1∧((a.o.length:Int)+a.f.length≠room→outN ((fitL room was c).o++(key :: (fitL room was c).f)) (a.o++a.f)=0)∧
     outN ((key :: (fitL room was c).o)++(fitL room was c).f) (a.o++a.f)≤1∧((a.o.length:Int)+a.f.length≠room→outN ((key :: (fitL room was c).o)++(fitL room was c).f) (a.o++a.f)=0):=by
    intro was c e1 e2
    have hF:=fitL_ok was (a:=c) v.room1.1 (by rw [e1,e2]; exact v.inc)
    obtain ⟨e,he⟩:=hF.keep
    rw [e1,e2] at he
    have hall:=hF.all
    rw [e1,e2] at hall
    refine ⟨hone { c with o:=(fitL room was c).o,f:=key :: (fitL room was c).f } e fun x hx=>(he x hx).imp id fun h=>h.imp id (List.mem_cons_of_mem _),fun hne=>?_,
     hone { c with o:=key :: (fitL room was c).o,f:=(fitL room was c).f } e fun x hx=>(he x hx).imp id fun h=>h.imp (List.mem_cons_of_mem _) id,fun hne=>?_⟩
    ·have:=v.inc
     rw [hall (by omega),e1,e2]
     exact hin { a with f:=key :: a.f } fun x hx=>hx.imp id (List.mem_cons_of_mem _)
    ·have:=v.inc
     rw [hall (by omega),e1,e2]
     exact hin { a with o:=key :: a.o } fun x hx=>hx.imp (List.mem_cons_of_mem _) id
   split
   ·obtain ⟨p,q,_,_⟩:=hfit false { a with t:=(if a.t+max1 (Int.tdiv a.wf.length a.wo.length) < room then a.t+max1 (Int.tdiv a.wf.length a.wo.length) else room),wo:=rmK a.wo key } rfl rfl
    exact ⟨p,fun h=>q (h.resolve_left (by simp))⟩
   ·split
    ·obtain ⟨p,q,_,_⟩:=hfit true { a with t:=(if 0 < a.t - max1 (Int.tdiv a.wo.length a.wf.length) then a.t - max1 (Int.tdiv a.wo.length a.wf.length) else 0),wf:=rmK a.wf key } rfl rfl
     exact ⟨p,fun h=>q (h.resolve_left (by simp))⟩
    ·show outN ((freshL room a key).o++(freshL room a key).f) _≤1∧_
     unfold freshL
     simp only []
     split
     ·obtain ⟨_,_,p,q⟩:=hfit false { a with wo:=a.wo.take (a.wo.length - 1) } rfl rfl
      exact ⟨p,fun h=>q (h.resolve_left (by simp))⟩
     ·split
      ·rename_i hw hw2
       have hr:=v.room1.1
       have hpos:0 < a.o.length:=by omega
       have hs:=last_split hpos
       refine ⟨hone { a with o:=key :: a.o.take (a.o.length - 1) } (lastI a.o) fun x hx=>?_,fun h=>?_⟩
       ·rcases hx with h | h
        ·rw [← hs] at h
         rcases List.mem_append.1 h with h | h
         ·exact .inr (.inl (List.mem_cons_of_mem _ h))
         ·exact .inl (List.mem_singleton.1 h)
        ·exact .inr (.inr h)
       ·have:=v.inc
        have h:=h.resolve_left (by simp)
        omega
      ·split
       ·obtain ⟨_,_,p,q⟩:=hfit false { a with wf:=a.wf.take (a.wf.length - 1) } rfl rfl
        exact ⟨p,fun h=>q (h.resolve_left (by simp))⟩
       ·obtain ⟨_,_,p,q⟩:=hfit false a rfl rfl
        exact ⟨p,fun h=>q (h.resolve_left (by simp))⟩
def runL (room:Int):LI→AL→Int→AL×Int
 | [],a,n=>(a,n)
 | x :: r,a,n=>runL room r (adM room a x).1 (n+toI (adM room a x).2)
theorem lists0 {room t:Int} (h:1≤room∧room≤8) (g:0≤t∧t≤room):VLists room ⟨t,[],[],[],[]⟩:=
 ⟨h,g,by simp; omega,by simp; omega,by simp; omega,fun x=>by simp,fun x hx=>by simp at hx⟩
theorem lists_len {room:Int} {a:AL} (v:VLists room a):a.o.length≤8∧a.f.length≤8∧a.wo.length≤8∧a.wf.length≤16:=by
 have:=v.room1; have:=v.inc; have:=v.onc; have:=v.tot
 omega
theorem mkRoom_len {was:Bool} {a:AL} (h:0 < a.o.length+a.f.length):(mkRoom was a).o.length≤a.o.length∧(mkRoom was a).f.length≤a.f.length∧(mkRoom was a).wo.length≤a.wo.length+1∧(mkRoom was a).wf.length≤a.wf.length+1:=by
 unfold mkRoom
 split <;> simp
theorem VEnt.sub {l l':List Ent} {room:Int} (v:VEnt l room) (h:l'.Sublist l):VEnt l' room:=by
 obtain ⟨v1,v2,v3,v4,v5⟩:=v
 have:=h.length_le
 exact ⟨v1,by omega,fun e he=>v3 e (h.subset he),List.Pairwise.sublist (h.map _) v4,List.Pairwise.sublist (h.map _) v5⟩
def OldC (l:List Ent) (key old:Int):Prop:=(key ∉ l.map (·.1)∧old=0)∨∃ e∈l,e.1=key∧old=e.2.1
theorem OldC.snoc {l:List Ent} {key old:Int} {x:Ent} (h:OldC l key old) (hx:x.1≠key):OldC (l++[x]) key old:=by
 rcases h with ⟨h1,h2⟩ | ⟨e,h1,h2,h3⟩
 ·refine .inl ⟨fun hm=>?_,h2⟩
  rw [List.map_append,List.mem_append] at hm
  rcases hm with hm | hm
  ·exact h1 hm
  ·simp at hm; exact hx hm.symm
 ·exact .inr ⟨e,List.mem_append_left _ h1,h2,h3⟩
theorem OldC.here {l:List Ent} {key:Int} {x:Ent} (hx:x.1=key):OldC (l++[x]) key x.2.1:=.inr ⟨x,by simp,hx,rfl⟩
theorem oftM_miss {l:List Ent} {room key now:Int} (hm:key ∉ l.map (·.1)):oftM l room key now=((if (l.length:Int)=room then l.eraseIdx (rareM l) else l)++[(key,1,now)],false):=by
 unfold oftM; rw [if_neg hm]
theorem adM_in {room:Int} {a:AL} {key:Int}:key∈(adM room a key).1.o∨key∈(adM room a key).1.f:=by
 by_cases h:key∈a.o∨key∈a.f∨key∈a.wo∨key∈a.wf
 ·obtain ⟨s,hs⟩:=adM_known (room:=room) h
  right; rw [hs]; simp
 ·rw [adM_new h]
  left
  unfold freshL
  simp
def FirstAt (l:List Ent) (v:Ent) (r:Int):Prop:=(∃ j:Nat,r=j∧j < l.length∧l[j]?=some v∧∀ q,q < j→l[q]?≠some v)∨(r=-1∧v ∉ l)
theorem firstAt_rare {l:List Ent} {r:Int} (hn:(l.map (·.1)).Nodup) (hne:l≠[]) (h:FirstAt l (l.getD (rareM l) ent0) r):r=(rareM l:Nat):=by
 obtain ⟨h1,h2⟩:=rareM_ok hne
 have hg:l[rareM l]?=some (l.getD (rareM l) ent0):=by rw [List.getD_eq_getElem?_getD,List.getElem?_eq_getElem h1]; rfl
 rcases h with ⟨j,rfl,hj,h3,h4⟩ | ⟨_,h3⟩
 ·have:j=rareM l:=nodup_at hn (x:=(l.getD (rareM l) ent0).1) (by rw [List.getElem?_map,h3]; rfl) (by rw [List.getElem?_map,hg]; rfl)
  rw [this]
 ·exact absurd (List.mem_of_getElem? hg) h3
theorem mid_take0 {α:Type} {l r:List α} {i:Nat} (h:i≤l.length):(midA l i r).take i=l.take i:=by
 rw [midA,List.take_append_of_le_length (by simp; omega),List.take_take,Nat.min_self]
theorem mid_take1 {α:Type} {l r:List α} {i n:Nat} (h:i≤l.length) (hn:n=i+r.length):(midA l i r).take n=l.take i++r:=by
 have hl:(l.take i).length=i:=by simp; omega
 rw [midA,← List.append_assoc,List.take_append_of_le_length (by simp; omega),List.take_of_length_le (by simp; omega)]
def upE (key now:Int) (e:Ent):Ent:=if e.1=key then (e.1,(if 100 < e.2.1+1 then (100:Int) else e.2.1+1),now) else e
theorem upE_not {l:List Ent} {key now:Int} (h:key ∉ l.map (·.1)):l.map (upE key now)=l:=by
 have:∀ e∈l,upE key now e=e:=fun e he=>by
  rw [upE,if_neg (fun c=>h (List.mem_map.2 ⟨e,he,c⟩))]
 exact (List.map_congr_left this).trans (List.map_id l)
theorem upE_set:∀ {l:List Ent} {key now:Int} {j:Nat},(l.map (·.1)).Nodup→(hj:j < l.length)→(l[j]).1=key→l.map (upE key now)=l.set j (key,(if 100 < (l[j]).2.1+1 then (100:Int) else (l[j]).2.1+1),now)
 | e :: l,key,now,0,hn,hj,he=>by
  simp only [List.map_cons,List.nodup_cons] at hn
  simp only [List.getElem_cons_zero] at he
  simp only [List.map_cons,List.set_cons_zero,List.getElem_cons_zero]
  rw [upE_not (by rw [← he]; exact hn.1),upE,if_pos he,he]
 | e :: l,key,now,j+1,hn,hj,he=>by
  simp only [List.map_cons,List.nodup_cons] at hn
  simp only [List.getElem_cons_succ] at he
  have hj':j < l.length:=by simpa using hj
  simp only [List.map_cons,List.set_cons_succ,List.getElem_cons_succ]
  rw [upE_set hn.2 hj' he,upE,if_neg fun c=>hn.1 (by rw [c,← he]; exact List.mem_map.2 ⟨_,List.getElem_mem hj',rfl⟩)]
theorem oftM_map {l:List Ent} {room key now:Int} (hn:(l.map (·.1)).Nodup) (h:key∈l.map (·.1)):oftM l room key now=(l.map (upE key now),true):=by
 unfold oftM
 rw [if_pos h]
 obtain ⟨j,j1,j2,_,j3⟩:=plc_pos h
 have hj:(entAt l key).toNat=j:=by unfold entAt; rw [j3]; omega
 rw [hj]
 rw [List.length_map] at j1
 rw [List.getElem?_map,List.getElem?_eq_getElem j1] at j2
 have hk:(l[j]).1=key:=by simpa using j2
 rw [upE_set hn j1 hk,List.getD_eq_getElem?_getD,List.getElem?_eq_getElem j1]
 simp only [Option.getD_some,min_100]
def cmpI (x y:Int):Int:=if x < y then -1 else if y < x then 1 else 0
theorem cmpI_rar {a1 a2 a3 b1 b2 b3:Int}:(if cmpI a2 b2≠0 then cmpI a2 b2 else cmpI a3 b3) < 0↔Rar (a1,a2,a3) (b1,b2,b3):=by
 unfold Rar cmpI
 simp only
 by_cases h1:a2 < b2
 ·simp [h1]
 ·by_cases h2:b2 < a2
  ·simp [h1,h2]; omega
  ·have e:a2=b2:=by omega
   by_cases h3:a3 < b3
   ·simp [h3,e]
   ·by_cases h4:b3 < a3
    ·simp [h3,h4,e]
    ·simp [h3,h4,e]
def orI:LI→Int
 | []=>0
 | x :: r=>if x≠0 then x else orI r
def nextT (room:Int) (a:AL) (key:Int):Int:=
 if key∈a.wo then (if a.t+max1 (Int.tdiv a.wf.length a.wo.length) < room then a.t+max1 (Int.tdiv a.wf.length a.wo.length) else room)
 else if key∈a.wf then (if 0 < a.t - max1 (Int.tdiv a.wo.length a.wf.length) then a.t - max1 (Int.tdiv a.wo.length a.wf.length) else 0)
 else a.t
def forgetL (room:Int) (a:AL):AL:=
 if (a.o.length:Int)+a.wo.length=room∧0 < a.wo.length then { a with wo:=a.wo.take (a.wo.length - 1) }
 else if (a.o.length:Int)+a.wo.length=room then { a with o:=a.o.take (a.o.length - 1) }
 else if (a.o.length:Int)+a.wo.length+a.f.length+a.wf.length=2*room then { a with wf:=a.wf.take (a.wf.length - 1) } else a
def outL (room:Int) (a:AL) (key:Int):AL:=⟨nextT room a key,rmK a.o key,rmK a.f key,rmK a.wo key,rmK a.wf key⟩
def knownL (a:AL) (key:Int):Prop:=key∈a.o∨key∈a.f∨key∈a.wf∨key∈a.wo
instance (a:AL) (key:Int):Decidable (knownL a key):=by unfold knownL; infer_instance
def madeL (room:Int) (a:AL) (key:Int):AL:=fitL room (decide (key∈a.wf)) (if knownL a key then outL room a key else forgetL room (outL room a key))
def inL (kn:Prop) [Decidable kn] (key:Int) (b:AL):AL:=if kn then { b with f:=key :: b.f } else { b with o:=key :: b.o }
theorem fitL_no {room:Int} {was:Bool} {a:AL} (h:(a.o.length:Int)+a.f.length≠room):fitL room was a=a:=by unfold fitL; rw [if_neg h]
theorem useL_adM {room:Int} {a:AL} {key:Int} (v:VLists room a):adM room a key=(inL (knownL a key) key (madeL room a key),decide (key∈a.o∨key∈a.f)):=by
 have dk:=v.dis key
 have hno:∀ x,a.o.count x≤1∧a.f.count x≤1∧a.wo.count x≤1∧a.wf.count x≤1:=fun x=>by have:=v.dis x; omega
 have i1:=v.inc
 have o1:=v.onc
 have one:∀ {l:LI},key∈l→0 < l.count key:=fun h=>count_mem.1 h
 by_cases m1:key∈a.o
 ·have p1:=one m1
  have m2:key ∉ a.f:=count_not.2 (by omega)
  have m3:key ∉ a.wo:=count_not.2 (by omega)
  have m4:key ∉ a.wf:=count_not.2 (by omega)
  have hl:=len_rm (by omega:a.o.count key=1) fun x=>(hno x).1
  have kn:knownL a key:=.inl m1
  unfold adM inL madeL
  rw [if_pos m1,if_pos kn,if_pos kn,fitL_no (by simp only [outL,rmK_not m2]; omega)]
  simp [outL,nextT,m1,m3,m4,rmK_not m2,rmK_not m3,rmK_not m4]
 by_cases m2:key∈a.f
 ·have p2:=one m2
  have m3:key ∉ a.wo:=count_not.2 (by omega)
  have m4:key ∉ a.wf:=count_not.2 (by omega)
  have hl:=len_rm (by omega:a.f.count key=1) fun x=>(hno x).2.1
  have kn:knownL a key:=.inr (.inl m2)
  unfold adM inL madeL
  rw [if_neg m1,if_pos m2,if_pos kn,if_pos kn,fitL_no (by simp only [outL,rmK_not m1]; omega)]
  simp [outL,nextT,m2,m3,m4,rmK_not m1,rmK_not m3,rmK_not m4]
 by_cases m3:key∈a.wo
 ·have p3:=one m3
  have m4:key ∉ a.wf:=count_not.2 (by omega)
  have kn:knownL a key:=.inr (.inr (.inr m3))
  unfold adM inL madeL
  rw [if_neg m1,if_neg m2,if_pos m3,if_pos kn,if_pos kn]
  simp [outL,nextT,m1,m2,m3,m4,rmK_not m1,rmK_not m2,rmK_not m4]
 by_cases m4:key∈a.wf
 ·have kn:knownL a key:=.inr (.inr (.inl m4))
  unfold adM inL madeL
  rw [if_neg m1,if_neg m2,if_neg m3,if_pos m4,if_pos kn,if_pos kn]
  simp [outL,nextT,m1,m2,m3,m4,rmK_not m1,rmK_not m2,rmK_not m3]
 ·have kn:¬ knownL a key:=fun c=>by unfold knownL at c; simp_all
  unfold adM inL madeL
  rw [if_neg m1,if_neg m2,if_neg m3,if_neg m4,if_neg kn,if_neg kn]
  have e:outL room a key=a:=by simp [outL,nextT,m3,m4,rmK_not m1,rmK_not m2,rmK_not m3,rmK_not m4]
  rw [e]
  simp only [m1,m2,m4,or_self,decide_false]
  have:freshL room a key={ fitL room false (forgetL room a) with o:=key :: (fitL room false (forgetL room a)).o }:=by
   unfold freshL forgetL
   split
   ·rfl
   ·split
    ·rename_i h1 h2
     rw [fitL_no]
     simp only [len_last]; have:=v.room1; omega
    ·rfl
  rw [this]
theorem firM_hit {l:LI} {room key:Int} (h:key∈l):firM l room key=l:=by rw [firM,if_pos h]
theorem firM_miss {l:LI} {room key:Int} (h:key ∉ l) (hr:1≤room):firM l room key=l.drop (l.length+1 - room.toNat)++[key]:=by
 rw [firM,if_neg h,List.drop_append_of_le_length (by omega)]
theorem firM_mem {l:LI} {room key:Int} (hr:1≤room):key∈firM l room key:=by
 by_cases h:key∈l
 ·rw [firM_hit h]; exact h
 ·rw [firM_miss h hr]; simp
def Can (room:Nat):LI→LI→Nat→Prop
 | [],_,n=>n=0
 | k :: r,C,n=>∃ D m,D.Nodup∧D.length≤room∧k∈D∧(∀ x∈D,x=k∨x∈C)∧Can room r D m∧n≤m+(if k∈C then 1 else 0)
theorem Can.less {room:Nat}:∀ {r C:LI} {n m:Nat},Can room r C n→m≤n→Can room r C m
 | [],_,_,_,h,hm=>by simp only [Can] at *; omega
 | k :: r,C,_,_,⟨D,m,h1,h2,h3,h4,h5,h6⟩,hm=>⟨D,m,h1,h2,h3,h4,h5,by omega⟩
theorem Can.mono {room:Nat}:∀ {r C D:LI} {n:Nat},Can room r C n→(∀ x∈C,x∈D)→Can room r D n
 | [],_,_,_,h,_=>h
 | k :: r,C,D,n,⟨E,m,h1,h2,h3,h4,h5,h6⟩,hs=>by
  refine ⟨E,m,h1,h2,h3,fun x hx=>(h4 x hx).imp id (hs x),h5,?_⟩
  by_cases hc:k∈C
  ·rw [if_pos hc] at h6; rw [if_pos (hs k hc)]; exact h6
  ·rw [if_neg hc] at h6; exact Nat.le_trans h6 (Nat.le_add_right _ _)
theorem Can.zero {room:Nat} (h:1≤room):∀ {r C:LI},Can room r C 0
 | [],_=>rfl
 | k :: r,C=>⟨[k],0,by simp,by simpa using h,by simp,fun x hx=>.inl (List.mem_singleton.1 hx),Can.zero h,by omega⟩
theorem Can.minus {room:Nat} {y:Int}:∀ {r C:LI} {n:Nat},Can room r C (n+1)→Can room r (rmK C y) n
 | [],C,n,h=>by simp only [Can] at h; omega
 | k :: r,C,n,⟨D,m,h1,h2,h3,h4,h5,h6⟩=>by
  by_cases hy:k=y
  ·subst hy
   refine ⟨D,m,h1,h2,h3,fun x hx=>?_,h5,?_⟩
   ·rcases h4 x hx with h | h
    ·exact .inl h
    ·by_cases e:x=k
     ·exact .inl e
     ·exact .inr (mem_rmK.2 ⟨h,e⟩)
   ·split at h6 <;> omega
  ·have hm:(k∈rmK C y)=(k∈C):=propext (by rw [mem_rmK]; exact and_iff_left hy)
   have hr:1≤room:=by have:=List.length_pos_of_mem h3; omega
   refine ⟨rmK D y,m - 1,rmK_nodup h1,by have:=@rmK_le D y; omega,mem_rmK.2 ⟨h3,hy⟩,fun x hx=>?_,?_,by simp only [hm]; omega⟩
   ·obtain ⟨hx1,hx2⟩:=mem_rmK.1 hx
    exact (h4 x hx1).imp id fun h=>mem_rmK.2 ⟨h,hx2⟩
   ·cases m with
    | zero=>exact Can.zero hr
    | succ m=>exact Can.minus h5
def nxt (x:Int):LI→Nat
 | []=>0
 | k :: r=>if k=x then 0 else nxt x r+1
theorem nxt_le (x:Int):∀ r,nxt x r≤r.length
 | []=>Nat.le_refl _
 | k :: r=>by unfold nxt; have:=nxt_le x r; split <;> simp; omega
theorem Can.swap {room:Nat} {x y:Int}:∀ {r C:LI} {n:Nat},Can room r (y :: C) n→C.Nodup→x ∉ C→y ∉ C→C.length+1≤room→nxt x r≤nxt y r→Can room r (x :: C) n
 | [],_,_,h,_,_,_,_,_=>h
 | k :: r,C,n,⟨D,m,h1,h2,h3,h4,h5,h6⟩,hn,hx,hy,hc,hi=>by
  by_cases exy:x=y
  ·subst exy; exact ⟨D,m,h1,h2,h3,h4,h5,h6⟩
  by_cases ek:k=y
  ·subst ek
   rw [nxt,nxt,if_pos rfl,if_neg (Ne.symm exy)] at hi
   omega
  by_cases ekx:k=x
  ·-- the sooner one comes: a hit
   subst ekx
   have hmiss:¬ k∈y :: C:=by simp; exact ⟨ek,hx⟩
   rw [if_neg hmiss] at h6
   refine ⟨k :: C,m - 1,List.nodup_cons.2 ⟨hx,hn⟩,by simpa using hc,by simp,fun z hz=>by simp at hz; exact hz.imp id fun h=>by simp [h],?_,by simp; omega⟩
   cases m with
   | zero=>exact Can.zero (by omega)
   | succ m=>
    refine (Can.minus (y:=y) h5).mono fun z hz=>?_
    obtain ⟨g1,g2⟩:=mem_rmK.1 hz
    rcases h4 z g1 with h | h
    ·rw [h]; simp
    ·rcases List.mem_cons.1 h with h | h
     ·exact absurd h g2
     ·exact List.mem_cons_of_mem _ h
  ·-- another key
   have hik:nxt x r≤nxt y r:=by
    rw [nxt,nxt,if_neg ekx,if_neg ek] at hi; omega
   have hb:(if k∈x :: C then 1 else 0)=(if k∈y :: C then 1 else 0):=by
    have:(k∈x :: C)↔(k∈y :: C):=by simp [ek,ekx]
    simp only [this]
   by_cases hyD:y∈D
   ·by_cases hxD:x∈D
    ·rcases h4 x hxD with h | h
     ·exact absurd h.symm ekx
     ·rcases List.mem_cons.1 h with h | h
      ·exact absurd h exy
      ·exact absurd h hx
    ·refine ⟨x :: rmK D y,m,List.nodup_cons.2 ⟨fun h=>hxD (mem_rmK.1 h).1,rmK_nodup h1⟩,?_,List.mem_cons_of_mem _ (mem_rmK.2 ⟨h3,ek⟩),fun z hz=>?_,?_,by rw [hb]; exact h6⟩
     ·have:=rmK_len h1 hyD; simp; omega
     ·rcases List.mem_cons.1 hz with h | h
      ·right; rw [h]; simp
      ·obtain ⟨g1,g2⟩:=mem_rmK.1 h
       rcases h4 z g1 with h | h
       ·exact .inl h
       ·rcases List.mem_cons.1 h with h | h
        ·exact absurd h g2
        ·exact .inr (List.mem_cons_of_mem _ h)
     ·refine Can.swap (y:=y) (h5.mono fun z hz=>?_) (rmK_nodup h1) (fun h=>hxD (mem_rmK.1 h).1) (fun h=>(mem_rmK.1 h).2 rfl) (by have:=rmK_len h1 hyD; omega) hik
      by_cases e:z=y
      ·rw [e]; simp
      ·exact List.mem_cons_of_mem _ (mem_rmK.2 ⟨hz,e⟩)
   ·refine ⟨D,m,h1,h2,h3,fun z hz=>?_,h5,by rw [hb]; exact h6⟩
    rcases h4 z hz with h | h
    ·exact .inl h
    ·rcases List.mem_cons.1 h with h | h
     ·rw [h] at hz; exact absurd hz hyD
     ·exact .inr (List.mem_cons_of_mem _ h)
def farK (r:LI):LI→Int→Int
 | [],b=>b
 | x :: l,b=>farK r l (if nxt b r < nxt x r then x else b)
theorem farK_mem (r:LI):∀ (l:LI) (b:Int),farK r l b∈b :: l
 | [],b=>by simp [farK]
 | x :: l,b=>by
  have:=farK_mem r l (if nxt b r < nxt x r then x else b)
  unfold farK
  rcases List.mem_cons.1 this with h | h
  ·rw [h]; split <;> simp
  ·simp [h]
theorem farK_max (r:LI):∀ (l:LI) (b x:Int),x∈b :: l→nxt x r≤nxt (farK r l b) r
 | [],b,x,h=>by simp at h; rw [h]; exact Nat.le_refl _
 | y :: l,b,x,h=>by
  unfold farK
  have h1:=farK_max r l (if nxt b r < nxt y r then y else b) (if nxt b r < nxt y r then y else b) (by simp)
  rcases List.mem_cons.1 h with h | h
  ·rw [h]; split at h1
   ·rw [if_pos (by assumption)]; omega
   ·rw [if_neg (by assumption)]; exact h1
  ·rcases List.mem_cons.1 h with h | h
   ·rw [h]; split at h1
    ·rw [if_pos (by assumption)]; exact h1
    ·rw [if_neg (by assumption)]; omega
   ·exact farK_max r l _ x (List.mem_cons_of_mem _ h)
def farM (r:LI):LI→Int
 | []=>0
 | x :: l=>farK r l x
theorem farM_mem {r C:LI} (h:0 < C.length):farM r C∈C:=by
 cases C with
 | nil=>simp at h
 | cons x l=>exact farK_mem r l x
theorem farM_max {r C:LI} {x:Int} (h:x∈C):nxt x r≤nxt (farM r C) r:=by
 cases C with
 | nil=>simp at h
 | cons y l=>exact farK_max r l y x h
def missB (room:Nat) (r C:LI) (k:Int):LI:=(if C.length=room then rmK C (farM r C) else C)++[k]
def bestM (room:Nat):LI→LI→Nat
 | [],_=>0
 | k :: r,C=>if k∈C then bestM room r C+1 else bestM room r (missB room r C k)
theorem missB_ok {room:Nat} {r C:LI} {k:Int} (hr:1≤room) (hn:C.Nodup) (hc:C.length≤room) (hk:k ∉ C):(missB room r C k).Nodup∧(missB room r C k).length≤room∧k∈missB room r C k∧∀ x∈missB room r C k,x=k∨x∈C:=by
 unfold missB
 split
 ·rename_i hf
  have hm:=farM_mem (r:=r) (C:=C) (by omega)
  have:=rmK_len hn hm
  refine ⟨?_,by simp; omega,by simp,fun x hx=>?_⟩
  ·rw [List.nodup_append]
   exact ⟨rmK_nodup hn,by simp,fun a ha b hb e=>by simp at hb; subst hb; subst e; exact hk (mem_rmK.1 ha).1⟩
  ·rcases List.mem_append.1 hx with h | h
   ·exact .inr (mem_rmK.1 h).1
   ·exact .inl (List.mem_singleton.1 h)
 ·refine ⟨?_,by simp; omega,by simp,fun x hx=>?_⟩
  ·rw [List.nodup_append]
   exact ⟨hn,by simp,fun a ha b hb e=>by simp at hb; subst hb; subst e; exact hk ha⟩
  ·rcases List.mem_append.1 hx with h | h
   ·exact .inr h
   ·exact .inl (List.mem_singleton.1 h)
theorem best_can {room:Nat} (hr:1≤room):∀ {r C:LI},C.Nodup→C.length≤room→Can room r C (bestM room r C)
 | [],_,_,_=>rfl
 | k :: r,C,hn,hc=>by
  unfold bestM
  by_cases hk:k∈C
  ·rw [if_pos hk]
   exact ⟨C,bestM room r C,hn,hc,hk,fun x hx=>.inr hx,best_can hr hn hc,by rw [if_pos hk]; exact Nat.le_refl _⟩
  ·rw [if_neg hk]
   obtain ⟨h1,h2,h3,h4⟩:=missB_ok (r:=r) hr hn hc hk
   exact ⟨missB room r C k,_,h1,h2,h3,h4,best_can hr h1 h2,Nat.le_add_right _ _⟩
theorem more_keys {C D:LI} (hn:C.Nodup) (h:D.length < C.length):∃ y∈C,y ∉ D:=by
 apply Classical.byContradiction
 intro hno
 have hs:∀ y∈C,y∈D:=fun y hy=>Classical.byContradiction fun c=>hno ⟨y,hy,c⟩
 have:=nodup_le hn hs
 omega
theorem best_opt {room:Nat} (hr:1≤room):∀ {r C:LI} {n:Nat},Can room r C n→C.Nodup→C.length≤room→n≤bestM room r C
 | [],_,_,h,_,_=>by simp only [Can] at h; omega
 | k :: r,C,n,⟨D,m,h1,h2,h3,h4,h5,h6⟩,hn,hc=>by
  unfold bestM
  by_cases hk:k∈C
  ·rw [if_pos hk] at h6 ⊢
   have:=best_opt hr (h5.mono (D:=C) fun x hx=>(h4 x hx).elim (fun e=>e ▸ hk) id) hn hc
   omega
  ·rw [if_neg hk] at h6 ⊢
   obtain ⟨g1,g2,g3,g4⟩:=missB_ok (r:=r) hr hn hc hk
   refine Nat.le_trans h6 (best_opt hr ?_ g1 g2)
   unfold missB at *
   by_cases hf:C.length=room
   ·rw [if_pos hf] at *
    have hm:=farM_mem (r:=r) (C:=C) (by omega)
    obtain ⟨y,y1,y2⟩:=more_keys (C:=C) (D:=rmK D k) hn (by have:=rmK_len h1 h3; omega)
    have y3:y≠k:=fun e=>hk (e ▸ y1)
    have y4:y ∉ D:=fun h=>y2 (mem_rmK.2 ⟨h,y3⟩)
    by_cases hy:y=farM r C
    ·refine h5.mono fun x hx=>?_
     rcases h4 x hx with h | h
     ·rw [h]; simp
     ·exact List.mem_append_left _ (mem_rmK.2 ⟨h,fun e=>y4 (by rw [hy,← e]; exact hx)⟩)
    ·have hfk:farM r C≠k:=fun e=>hk (e ▸ hm)
     have hn2:(k :: rmK (rmK C y) (farM r C)).Nodup:=List.nodup_cons.2 ⟨fun h=>hk (mem_rmK.1 (mem_rmK.1 h).1).1,rmK_nodup (rmK_nodup hn)⟩
     have l1:=rmK_len hn y1
     have l2:=rmK_len (rmK_nodup (key:=y) hn) (mem_rmK.2 ⟨hm,Ne.symm hy⟩)
     have h7:Can room r (farM r C :: k :: rmK (rmK C y) (farM r C)) m:=h5.mono fun x hx=>by
      rcases h4 x hx with h | h
      ·rw [h]; simp
      ·by_cases e:x=farM r C
       ·rw [e]; simp
       ·exact List.mem_cons_of_mem _ (List.mem_cons_of_mem _ (mem_rmK.2 ⟨mem_rmK.2 ⟨h,fun e2=>y4 (e2 ▸ hx)⟩,e⟩))
     have h8:=Can.swap (x:=y) h7 hn2 (fun h=>by
      rcases List.mem_cons.1 h with h | h
      ·exact y3 h
      ·exact (mem_rmK.1 (mem_rmK.1 h).1).2 rfl) (fun h=>by
      rcases List.mem_cons.1 h with h | h
      ·exact hfk h
      ·exact (mem_rmK.1 h).2 rfl) (by simp; omega) (farM_max y1)
     refine h8.mono fun x hx=>?_
     rcases List.mem_cons.1 hx with h | h
     ·rw [h]; exact List.mem_append_left _ (mem_rmK.2 ⟨y1,hy⟩)
     ·rcases List.mem_cons.1 h with h | h
      ·rw [h]; simp
      ·obtain ⟨a1,a2⟩:=mem_rmK.1 h
       exact List.mem_append_left _ (mem_rmK.2 ⟨(mem_rmK.1 a1).1,a2⟩)
   ·rw [if_neg hf] at *
    refine h5.mono fun x hx=>?_
    rcases h4 x hx with h | h
    ·rw [h]; simp
    ·exact List.mem_append_left _ h
theorem mem_usedR:∀ {t D:LI} {x:Int},x∈usedR D t↔x∈D∨x∈t
 | [],D,x=>by simp [usedR]
 | y :: t,D,x=>by
  rw [usedR,mem_usedR (t:=t),List.mem_cons,List.mem_cons,mem_rmK]
  by_cases e:x=y
  ·simp [e]
  ·simp [e]
theorem usedR_nodup:∀ {t D:LI},D.Nodup→(usedR D t).Nodup
 | [],_,h=>h
 | y :: t,D,h=>usedR_nodup (t:=t) (List.nodup_cons.2 ⟨fun h=>(mem_rmK.1 h).2 rfl,rmK_nodup h⟩)
def nk (t:LI):Nat:=(usedR [] t).length
theorem nk_of {t E:LI} (hn:E.Nodup) (h:∀ x,x∈E↔x∈t):E.length=nk t:=by
 refine Nat.le_antisymm (nodup_le hn fun x hx=>mem_usedR.2 (.inr ((h x).1 hx))) (nodup_le (usedR_nodup (by simp)) fun x hx=>(h x).2 ?_)
 exact (mem_usedR.1 hx).resolve_left (by simp)
theorem len_add {D:LI} (hn:D.Nodup) (k:Int):(k :: rmK D k).length=D.length+if k∈D then 0 else 1:=by
 rw [List.length_cons]
 split
 ·rename_i h; exact rmK_len hn h
 ·rename_i h; rw [rmK_not h]
theorem can_new {room:Nat}:∀ {r C D:LI} {n:Nat},Can room r C n→(∀ x∈C,x∈D)→D.Nodup→n+(usedR D r).length≤r.length+D.length
 | [],C,D,n,h,_,_=>by simp only [Can] at h; subst h; simp [usedR]
 | k :: r,C,D,n,⟨E,m,h1,h2,h3,h4,h5,h6⟩,hs,hn=>by
  have h7:=can_new (D:=k :: rmK D k) h5 (fun x hx=>by
   by_cases e:x=k
   ·rw [e]; simp
   ·exact List.mem_cons_of_mem _ (mem_rmK.2 ⟨hs x ((h4 x hx).resolve_left e),e⟩)) (List.nodup_cons.2 ⟨fun h=>(mem_rmK.1 h).2 rfl,rmK_nodup hn⟩)
  rw [len_add hn] at h7
  rw [usedR,List.length_cons]
  by_cases hk:k∈C
  ·rw [if_pos hk] at h6; rw [if_pos (hs k hk)] at h7; omega
  ·rw [if_neg hk] at h6
   split at h7 <;> omega
theorem bestM_new {room:Nat} (hr:1≤room) (t:LI):bestM room t []+nk t≤t.length:=by
 have:=can_new (D:=[]) (best_can hr (r:=t) (C:=[]) (by simp) (by simp)) (by simp) (by simp)
 simpa [nk] using this
def Runs (cap free:Nat):LI→LI→LI→Nat→Prop
 | [],C,E,n=>E=C∧n=0
 | k :: r,C,E,n=>∃ D m,D.Nodup∧D.length≤cap∧k∈D∧(∀ x∈D,x=k∨x∈C)∧((k∈C∨C.length < free)→∀ x∈C,x∈D)∧(k ∉ C→free≤C.length→free≤D.length)∧
   Runs cap free r D E m∧n=m+(if k∈C then 1 else 0)
theorem Runs.can {cap free:Nat}:∀ {r C E:LI} {n:Nat},Runs cap free r C E n→Can cap r C n
 | [],_,_,_,h=>h.2
 | k :: r,C,E,n,⟨D,m,h1,h2,h3,h4,_,_,h7,h8⟩=>⟨D,m,h1,h2,h3,h4,h7.can,by omega⟩
theorem Runs.best {cap free:Nat} {t E:LI} {n:Nat} (hr:1≤cap) (h:Runs cap free t [] E n):n≤bestM cap t []:=best_opt hr h.can (by simp) (by simp)
theorem Runs.new {cap free:Nat} {t E:LI} {n:Nat} (h:Runs cap free t [] E n):n+nk t≤t.length:=by
 have:=can_new (D:=[]) h.can (by simp) (by simp)
 simpa [nk] using this
theorem Runs.nodup {cap free:Nat}:∀ {r C E:LI} {n:Nat},Runs cap free r C E n→C.Nodup→C.length≤cap→E.Nodup∧E.length≤cap
 | [],_,_,_,h,h1,h2=>by rw [h.1]; exact ⟨h1,h2⟩
 | k :: r,C,E,n,⟨D,m,h1,h2,h3,h4,_,_,h7,h8⟩,_,_=>h7.nodup h1 h2
theorem Runs.sub {cap free:Nat}:∀ {r C E:LI} {n:Nat},Runs cap free r C E n→∀ x∈E,x∈C∨x∈r
 | [],_,_,_,h=>fun x hx=>.inl (h.1 ▸ hx)
 | k :: r,C,E,n,⟨D,m,h1,h2,h3,h4,_,_,h7,h8⟩=>fun x hx=>by
  rcases h7.sub x hx with h | h
  ·rcases h4 x h with h | h
   ·right; rw [h]; simp
   ·exact .inl h
  ·exact .inr (List.mem_cons_of_mem _ h)
theorem Runs.fit {cap free:Nat}:∀ {r C D E:LI} {n:Nat},Runs cap free r C E n→C.Nodup→D.Nodup→(∀ x,x∈C↔x∈D)→(usedR D r).length≤free→
  n+(usedR D r).length=r.length+D.length∧∀ x,x∈E↔x∈usedR D r
 | [],C,D,E,n,h,_,_,hs,_=>by rw [h.1,h.2]; exact ⟨by simp [usedR],hs⟩
 | k :: r,C,D,E,n,⟨C',m,h1,h2,h3,h4,h5,h6,h7,h8⟩,hc,hn,hs,hl=>by
  have hn2:(k :: rmK D k).Nodup:=List.nodup_cons.2 ⟨fun h=>(mem_rmK.1 h).2 rfl,rmK_nodup hn⟩
  have hCD:C.length=D.length:=Nat.le_antisymm (nodup_le hc fun x hx=>(hs x).1 hx) (nodup_le hn fun x hx=>(hs x).2 hx)
  rw [usedR] at hl ⊢
  have hmono:(k :: rmK D k).length≤(usedR (k :: rmK D k) r).length:=nodup_le hn2 fun x hx=>mem_usedR.2 (.inl hx)
  have hadd:=len_add hn k
  have hkeep:∀ x∈C,x∈C':=h5 (by
   by_cases hk:k∈C
   ·exact .inl hk
   ·right
    rw [if_neg (fun h=>hk ((hs k).2 h))] at hadd
    omega)
  have hs2:∀ x,x∈C'↔x∈k :: rmK D k:=fun x=>by
   constructor
   ·intro hx
    by_cases e:x=k
    ·rw [e]; simp
    ·exact List.mem_cons_of_mem _ (mem_rmK.2 ⟨(hs x).1 ((h4 x hx).resolve_left e),e⟩)
   ·intro hx
    rcases List.mem_cons.1 hx with h | h
    ·rw [h]; exact h3
    ·exact hkeep x ((hs x).2 (mem_rmK.1 h).1)
  obtain ⟨g1,g2⟩:=h7.fit h1 hn2 hs2 hl
  refine ⟨?_,g2⟩
  rw [hadd] at g1
  rw [h8,List.length_cons]
  by_cases hk:k∈C
  ·rw [if_pos hk]; rw [if_pos ((hs k).1 hk)] at g1; omega
  ·rw [if_neg hk]; rw [if_neg (fun h=>hk ((hs k).2 h))] at g1; omega
theorem Runs.full {cap free:Nat}:∀ {r C D E:LI} {n:Nat},Runs cap free r C E n→C.Nodup→D.Nodup→(free≤C.length∨∀ x,x∈C↔x∈D)→free≤E.length∨∀ x,x∈E↔x∈usedR D r
 | [],C,D,E,n,h,_,_,hs=>by rw [h.1]; exact hs
 | k :: r,C,D,E,n,⟨C',m,h1,h2,h3,h4,h5,h6,h7,h8⟩,hc,hn,hs=>by
  have hn2:(k :: rmK D k).Nodup:=List.nodup_cons.2 ⟨fun h=>(mem_rmK.1 h).2 rfl,rmK_nodup hn⟩
  refine h7.full h1 hn2 ?_
  by_cases hf:free≤C.length
  ·left
   by_cases hk:k∈C
   ·exact Nat.le_trans hf (nodup_le hc (h5 (.inl hk)))
   ·exact h6 hk hf
  ·right
   have hs:=hs.resolve_left hf
   have hkeep:∀ x∈C,x∈C':=h5 (.inr (by omega))
   intro x
   constructor
   ·intro hx
    by_cases e:x=k
    ·rw [e]; simp
    ·exact List.mem_cons_of_mem _ (mem_rmK.2 ⟨(hs x).1 ((h4 x hx).resolve_left e),e⟩)
   ·intro hx
    rcases List.mem_cons.1 hx with h | h
    ·rw [h]; exact h3
    ·exact hkeep x ((hs x).2 (mem_rmK.1 h).1)
theorem Runs.len {room:Nat} {t E:LI} {n:Nat} (h:Runs room room t [] E n):E.length=min room (nk t)∧(nk t≤room→n+nk t=t.length):=by
 obtain ⟨h1,h2⟩:=h.nodup (by simp) (by simp)
 have h3:E.length≤nk t:=nodup_le h1 fun x hx=>mem_usedR.2 (.inr ((h.sub x hx).resolve_left (by simp)))
 refine ⟨?_,fun hl=>?_⟩
 ·rcases h.full (D:=[]) (by simp) (by simp) (.inr fun x=>Iff.rfl) with g | g
  ·have:=Nat.min_le_left room (nk t); omega
  ·have:nk t≤E.length:=nodup_le (usedR_nodup (by simp)) fun x hx=>(g x).2 hx
   omega
 ·have:=(h.fit (D:=[]) (by simp) (by simp) (fun x=>Iff.rfl) hl).1
  simpa [nk] using this
theorem outN_all {a l:LI} (h:outN a l=0):∀ x∈l,x∈a:=by
 unfold outN at h
 rw [List.length_eq_zero_iff,List.filter_eq_nil_iff] at h
 intro x hx
 have:=h x hx
 simpa using this
theorem outN_in {a:LI}:∀ (l:LI),outN a l+(l.filter (fun x=>decide (x∈a))).length=l.length
 | []=>rfl
 | x :: l=>by
  have:=outN_in (a:=a) l
  rw [outN_cons,List.length_cons]
  by_cases h:x∈a
  ·rw [if_pos h,List.filter_cons_of_pos (by simp [h]),List.length_cons]; omega
  ·rw [if_neg h,List.filter_cons_of_neg (by simp [h])]; omega
theorem keep_full {C D:LI} {k:Int} (hn:C.Nodup) (hk:k ∉ C) (hd:k∈D) (h:outN D C≤1):C.length≤D.length:=by
 have h1:=outN_in (a:=D) C
 have h2:(k :: C.filter (fun x=>decide (x∈D))).length≤D.length:=nodup_le (List.nodup_cons.2 ⟨fun c=>hk (List.mem_filter.1 c).1,List.Pairwise.filter _ hn⟩) fun x hx=>by
  rcases List.mem_cons.1 hx with h | h
  ·rw [h]; exact hd
  ·simpa using (List.mem_filter.1 h).2
 rw [List.length_cons] at h2
 omega
theorem toI_if (p:Prop) [Decidable p] (m:Nat) (n:Int):n+toI (decide p)+(m:Int)=n+((m+(if p then 1 else 0):Nat):Int):=by
 by_cases h:p
 ·simp [h,toI]; omega
 ·simp [h,toI]
def StepK (cap free:Nat) (C D:LI) (k:Int):Prop:=
 D.Nodup∧D.length≤cap∧k∈D∧(∀ x∈D,x=k∨x∈C)∧((k∈C∨C.length < free)→∀ x∈C,x∈D)∧(k ∉ C→free≤C.length→free≤D.length)
theorem Runs.step {cap free:Nat} {k:Int} {r C D E:LI} {m:Nat} (h:StepK cap free C D k) (g:Runs cap free r D E m):Runs cap free (k :: r) C E (m+if k∈C then 1 else 0):=
 ⟨D,m,h.1,h.2.1,h.2.2.1,h.2.2.2.1,h.2.2.2.2.1,h.2.2.2.2.2,g,rfl⟩
theorem recM_step {l:LI} {room key:Int} (v:VKeys l room) (hk:0≤key∧key≤31):StepK room.toNat room.toNat l (recM l room key) key:=by
 have hv:=recM_valid v hk
 obtain ⟨v1,v2,v3,v4,v5⟩:=v
 refine ⟨hv.2.2.2.2,by have:=hv.2.2.1; omega,?_,fun x hx=>?_,fun h x hx=>?_,fun h1 h2=>?_⟩
 ·rw [recM_head (by omega)]; exact List.mem_cons_self
 ·rcases List.mem_cons.1 (List.mem_of_mem_take hx) with h | h
  ·exact .inl h
  ·exact .inr (mem_rmK.1 h).1
 ·by_cases hm:key∈l
  ·rw [recM_hit v5 v3 hm]
   by_cases e:x=key
   ·rw [e]; exact List.mem_cons_self
   ·exact List.mem_cons_of_mem _ (mem_rmK.2 ⟨hx,e⟩)
  ·rw [recM_miss hm,List.take_of_length_le (by simp; have:=h.resolve_left hm; omega)]
   exact List.mem_cons_of_mem _ hx
 ·rw [recM_miss h1,List.length_take,List.length_cons]; omega
theorem runR_runs {room:Int}:∀ (t l:LI) (n:Int),VKeys l room→(∀ x∈t,0≤x∧x≤31)→∃ m:Nat,Runs room.toNat room.toNat t l (runR room t l n).1 m∧(runR room t l n).2=n+m
 | [],l,n,_,_=>⟨0,⟨rfl,rfl⟩,by simp [runR]⟩
 | k :: t,l,n,v,ht=>by
  have hk:=ht k List.mem_cons_self
  obtain ⟨m,h1,h2⟩:=runR_runs t (recM l room k) (n+toI (decide (k∈l))) (recM_valid v hk) fun x hx=>ht x (List.mem_cons_of_mem _ hx)
  exact ⟨_,h1.step (recM_step v hk),by rw [runR,h2,toI_if]⟩
theorem firM_step {l:LI} {room key:Int} (v:VKeys l room) (hk:0≤key∧key≤31):StepK room.toNat room.toNat l (firM l room key) key:=by
 have hv:=firM_valid v hk
 obtain ⟨v1,v2,v3,v4,v5⟩:=v
 refine ⟨hv.2.2.2.2,by have:=hv.2.2.1; omega,firM_mem v1,fun x hx=>?_,fun h x hx=>?_,fun h1 h2=>?_⟩
 ·by_cases hm:key∈l
  ·rw [firM_hit hm] at hx; exact .inr hx
  ·rw [firM_miss hm v1] at hx
   rcases List.mem_append.1 hx with h | h
   ·exact .inr (List.mem_of_mem_drop h)
   ·exact .inl (List.mem_singleton.1 h)
 ·by_cases hm:key∈l
  ·rw [firM_hit hm]; exact hx
  ·have:=h.resolve_left hm
   rw [firM_miss hm v1,show l.length+1 - room.toNat=0 by omega]
   exact List.mem_append_left _ hx
 ·rw [firM_miss h1 v1]; simp; omega
theorem runF_runs {room:Int}:∀ (t l:LI) (n:Int),VKeys l room→(∀ x∈t,0≤x∧x≤31)→∃ m:Nat,Runs room.toNat room.toNat t l (runF room t l n).1 m∧(runF room t l n).2=n+m
 | [],l,n,_,_=>⟨0,⟨rfl,rfl⟩,by simp [runF]⟩
 | k :: t,l,n,v,ht=>by
  have hk:=ht k List.mem_cons_self
  obtain ⟨m,h1,h2⟩:=runF_runs t (firM l room k) (n+toI (decide (k∈l))) (firM_valid v hk) fun x hx=>ht x (List.mem_cons_of_mem _ hx)
  exact ⟨_,h1.step (firM_step v hk),by rw [runF,h2,toI_if]⟩
theorem tick_step {room:Int} {keys:LI} {used:List Bool} {hand key:Int} (v:VClock room keys used hand) (hk:0≤key∧key≤31):StepK room.toNat room.toNat keys (tickM room keys used hand key).1 key:=by
 have hv:=tick_valid v hk
 have hi:=tick_in (key:=key) v
 obtain ⟨⟨v1,v2,v3,v4,v5⟩,v6,v7,v8⟩:=v
 refine ⟨hv.1.2.2.2.2,by have:=hv.1.2.2.1; omega,hi,fun x hx=>?_,fun h x hx=>?_,fun h1 h2=>?_⟩
 ·unfold tickM at hx
  split at hx
  ·exact .inr hx
  ·split at hx
   ·rcases List.mem_append.1 hx with h | h
    ·exact .inr h
    ·exact .inl (List.mem_singleton.1 h)
   ·exact mem_set hx
 ·unfold tickM
  split
  ·exact hx
  ·rename_i hm
   rw [if_pos (by have:=h.resolve_left hm; omega)]
   exact List.mem_append_left _ hx
 ·unfold tickM
  rw [if_neg h1]
  split
  ·simp; omega
  ·simpa using h2
theorem runC_runs {room:Int}:∀ (t ks:LI) (us:List Bool) (h n:Int),VClock room ks us h→(∀ x∈t,0≤x∧x≤31)→∃ m:Nat,Runs room.toNat room.toNat t ks (runC room t ks us h n).1 m∧(runC room t ks us h n).2.2.2=n+m
 | [],ks,us,h,n,_,_=>⟨0,⟨rfl,rfl⟩,by simp [runC]⟩
 | k :: t,ks,us,h,n,v,ht=>by
  have hk:=ht k List.mem_cons_self
  obtain ⟨m,h1,h2⟩:=runC_runs t _ _ _ (n+toI (tickM room ks us h k).2.2.2) (tick_valid v hk) fun x hx=>ht x (List.mem_cons_of_mem _ hx)
  exact ⟨_,h1.step (tick_step v hk),by rw [runC,h2,tick_hit,toI_if]⟩
theorem oftM_keys {l:List Ent} {room key now:Int} (hm:key∈l.map (·.1)):(oftM l room key now).1.map (·.1)=l.map (·.1):=by
 obtain ⟨j,j1,j2,_,j3⟩:=plc_pos hm
 have hj:(entAt l key).toNat=j:=by unfold entAt; rw [j3]; omega
 unfold oftM
 rw [if_pos hm,hj,List.map_set]
 obtain ⟨g,e⟩:=List.getElem?_eq_some_iff.1 j2
 show (l.map (·.1)).set j key=_
 conv=>lhs; rw [← e]
 exact List.set_getElem_self g
theorem oftM_step {l:List Ent} {room key now:Int} (v:VEnt l room) (hk:0≤key∧key≤31) (hn:∀ e∈l,e.2.2 < now) (h0:0≤now∧now≤1000) :
  StepK room.toNat room.toNat (l.map (·.1)) ((oftM l room key now).1.map (·.1)) key:=by
 have hv:=oftM_valid v hk hn h0
 obtain ⟨v1,v2,v3,v4,v5⟩:=v
 refine ⟨hv.2.2.2.1,by have:=hv.2.1; simp; omega,?_,fun x hx=>?_,fun h x hx=>?_,fun h1 h2=>?_⟩
 ·by_cases hm:key∈l.map (·.1)
  ·rw [oftM_keys hm]; exact hm
  ·rw [oftM_miss hm]; simp
 ·by_cases hm:key∈l.map (·.1)
  ·rw [oftM_keys hm] at hx; exact .inr hx
  ·rw [oftM_miss hm,List.map_append] at hx
   rcases List.mem_append.1 hx with h | h
   ·right
    split at h
    ·rw [map_eraseIdx'] at h; exact List.mem_of_mem_eraseIdx h
    ·exact h
   ·exact .inl (by simpa using h)
 ·by_cases hm:key∈l.map (·.1)
  ·rw [oftM_keys hm]; exact hx
  ·have:=h.resolve_left hm
   rw [List.length_map] at this
   rw [oftM_miss hm,if_neg (by omega),List.map_append]
   exact List.mem_append_left _ hx
 ·rw [oftM_miss h1]
  rw [List.length_map] at h2
  split
  ·rename_i hf
   have hr:=(rareM_ok (l:=l) (by intro e; rw [e] at hf; simp at hf; omega)).1
   simp only [List.length_map,List.length_append,List.length_eraseIdx_of_lt hr,List.length_singleton]; omega
  ·simp; omega
theorem oftM_hitK {l:List Ent} {room key now:Int}:(oftM l room key now).2=decide (key∈l.map (·.1)):=by
 unfold oftM
 split
 ·rename_i h; exact (decide_eq_true h).symm
 ·rename_i h; exact (decide_eq_false h).symm
theorem runO_runs {room:Int}:∀ (t:LI) (l:List Ent) (now n:Int),VEnt l room→(∀ x∈t,0≤x∧x≤31)→(∀ e∈l,e.2.2 < now)→0≤now→now+t.length≤1001→
  ∃ m:Nat,Runs room.toNat room.toNat t (l.map (·.1)) ((runO room t l now n).1.map (·.1)) m∧(runO room t l now n).2=n+m
 | [],l,now,n,_,_,_,_,_=>⟨0,⟨rfl,rfl⟩,by simp [runO]⟩
 | k :: t,l,now,n,v,ht,hl,h0,h1=>by
  simp only [List.length_cons] at h1
  have hk:=ht k List.mem_cons_self
  obtain ⟨m,g1,g2⟩:=runO_runs t _ (now+1) (n+toI (oftM l room k now).2) (oftM_valid v hk hl (by omega)) (fun x hx=>ht x (List.mem_cons_of_mem _ hx)) (oftM_last hl) (by omega) (by omega)
  exact ⟨_,g1.step (oftM_step v hk hl (by omega)),by rw [runO,g2,oftM_hitK,toI_if]⟩
theorem segs_nd {trial safe:Int} {new old:LI} (v:VSegs trial safe new old):(old++new).Nodup:=by
 obtain ⟨⟨_,_,_,_,h1⟩,⟨_,_,_,_,h2⟩,h3⟩:=v
 exact List.nodup_append.2 ⟨h2,h1,fun a ha b hb e=>h3 b hb (e ▸ ha)⟩
theorem segM_step {trial safe:Int} {new old:LI} {key:Int} (v:VSegs trial safe new old) (hk:0≤key∧key≤31) :
  StepK (trial.toNat+safe.toNat) trial.toNat (old++new) ((segM trial safe new old key).2.1++(segM trial safe new old key).1) key:=by
 have hv:=segM_valid v hk
 have hn:=segs_nd v
 have hkeep:=segM_keep (key:=key) v
 have hin:key∈(segM trial safe new old key).2.1++(segM trial safe new old key).1:=by
  rcases segM_in (trial:=trial) (safe:=safe) (new:=new) (old:=old) (key:=key) v.1.1 v.2.1.1 with h | h
  ·exact List.mem_append_right _ h
  ·exact List.mem_append_left _ h
 have hhit:(segM trial safe new old key).2.2=decide (key∈old++new):=by
  rw [segM_hit]; simp [or_comm]
 refine ⟨segs_nd hv,?_,hin,fun x hx=>?_,fun h x hx=>?_,fun h1 h2=>?_⟩
 ·have:=hv.1.2.2.1; have:=hv.2.1.2.2.1; have:=v.1.1; have:=v.2.1.1
  rw [List.length_append]; omega
 ·rcases segM_sub (x:=x) (by rcases List.mem_append.1 hx with h | h; exact .inr h; exact .inl h) (vsegs_ne v) with h | h
  ·exact .inl h
  ·rcases h with h | h
   ·exact .inr (List.mem_append_right _ h)
   ·exact .inr (List.mem_append_left _ h)
 ·by_cases hm:key∈old++new
  ·exact outN_all (hkeep.1 (by rw [hhit]; exact decide_eq_true hm)) x hx
  ·have hlt:=h.resolve_left hm
   rw [List.length_append] at hlt
   rw [segM_miss (fun c=>hm (by simp; exact c.symm))]
   rw [List.take_of_length_le (by simp; omega)]
   rcases List.mem_append.1 hx with h | h
   ·exact List.mem_append_left _ h
   ·exact List.mem_append_right _ (List.mem_cons_of_mem _ h)
 ·have:=keep_full hn h1 hin (hkeep.2 (by rw [hhit]; exact decide_eq_false h1)).1
  omega
theorem runS_runs {trial safe:Int}:∀ (t a b:LI) (n:Int),VSegs trial safe a b→(∀ x∈t,0≤x∧x≤31)→
  ∃ m:Nat,Runs (trial.toNat+safe.toNat) trial.toNat t (b++a) ((runS trial safe t a b n).2.1++(runS trial safe t a b n).1) m∧(runS trial safe t a b n).2.2=n+m
 | [],a,b,n,_,_=>⟨0,⟨rfl,rfl⟩,by simp [runS]⟩
 | k :: t,a,b,n,v,ht=>by
  have hk:=ht k List.mem_cons_self
  obtain ⟨m,h1,h2⟩:=runS_runs t _ _ (n+toI (segM trial safe a b k).2.2) (segM_valid v hk) fun x hx=>ht x (List.mem_cons_of_mem _ hx)
  refine ⟨_,h1.step (segM_step v hk),?_⟩
  rw [runS,h2,show (segM trial safe a b k).2.2=decide (k∈b++a) by rw [segM_hit]; simp [or_comm],toI_if]
theorem fitL_sub {room:Int} {was:Bool} {a:AL} {x:Int}:(x∈(fitL room was a).o→x∈a.o)∧(x∈(fitL room was a).f→x∈a.f):=by
 unfold fitL mkRoom
 split
 ·split
  ·exact ⟨fun h=>List.mem_of_mem_take h,id⟩
  ·exact ⟨id,fun h=>List.mem_of_mem_take h⟩
 ·exact ⟨id,id⟩
theorem adM_sub {room:Int} {a:AL} {key x:Int} (h:x∈(adM room a key).1.o++(adM room a key).1.f):x=key∨x∈a.o++a.f:=by
 have fit:∀ (was:Bool) (c:AL),(∀ x∈c.o,x∈a.o)→(∀ x∈c.f,x∈a.f)→(x∈(fitL room was c).o∨x∈(fitL room was c).f)→x∈a.o++a.f:=by
  intro was c h1 h2 h
  rcases h with h | h
  ·exact List.mem_append_left _ (h1 x (fitL_sub.1 h))
  ·exact List.mem_append_right _ (h2 x (fitL_sub.2 h))
 have e1:∀ {l r:LI},x∈l++(key :: r)→x=key∨x∈l∨x∈r:=fun h=>by
  rcases List.mem_append.1 h with h | h
  ·exact .inr (.inl h)
  ·exact (List.mem_cons.1 h).imp id .inr
 have e2:∀ {l r:LI},x∈(key :: l)++r→x=key∨x∈l∨x∈r:=fun h=>by
  rcases List.mem_append.1 h with h | h
  ·exact (List.mem_cons.1 h).imp id .inl
  ·exact .inr (.inr h)
 revert h
 unfold adM
 split
 ·intro h
  rcases e1 h with h | h | h
  ·exact .inl h
  ·exact .inr (List.mem_append_left _ (mem_rmK.1 h).1)
  ·exact .inr (List.mem_append_right _ h)
 ·split
  ·intro h
   rcases e1 h with h | h | h
   ·exact .inl h
   ·exact .inr (List.mem_append_left _ h)
   ·exact .inr (List.mem_append_right _ (mem_rmK.1 h).1)
  ·split
   ·show x∈(fitL room false { a with t:=_,wo:=rmK a.wo key }).o++(key :: (fitL room false { a with t:=_,wo:=rmK a.wo key }).f)→_
    intro h
    refine (e1 h).imp id (fit _ _ ?_ ?_)
    ·exact fun _ h=>h
    ·exact fun _ h=>h
   ·split
    ·show x∈(fitL room true { a with t:=_,wf:=rmK a.wf key }).o++(key :: (fitL room true { a with t:=_,wf:=rmK a.wf key }).f)→_
     intro h
     refine (e1 h).imp id (fit _ _ ?_ ?_)
     ·exact fun _ h=>h
     ·exact fun _ h=>h
    ·intro h
     change x∈(freshL room a key).o++(freshL room a key).f at h
     revert h
     unfold freshL
     simp only []
     split
     ·intro h
      refine (e2 h).imp id (fit _ _ ?_ ?_)
      ·exact fun _ h=>h
      ·exact fun _ h=>h
     ·split
      ·intro h
       rcases e2 h with h | h | h
       ·exact .inl h
       ·exact .inr (List.mem_append_left _ (List.mem_of_mem_take h))
       ·exact .inr (List.mem_append_right _ h)
      ·intro h
       refine (e2 h).imp id (fit _ _ ?_ ?_)
       ·intro y h; split at h <;> exact h
       ·intro y h; split at h <;> exact h
theorem adM_step {room:Int} {a:AL} {key:Int} (v:VLists room a) (hk:0≤key∧key≤31):StepK room.toNat room.toNat (a.o++a.f) ((adM room a key).1.o++(adM room a key).1.f) key:=by
 have hv:=adM_valid v hk
 have hc:=adM_cache (key:=key) v
 have hin:key∈(adM room a key).1.o++(adM room a key).1.f:=List.mem_append.2 adM_in
 have hn:=cache_nodup v
 have r1:=v.room1.1
 have i1:=v.inc
 refine ⟨cache_nodup hv,by have:=hv.inc; rw [List.length_append]; omega,hin,fun x hx=>adM_sub hx,fun h=>?_,fun h1 h2=>?_⟩
 ·refine outN_all (hc.2 ?_)
  rcases h with h | h
  ·left; rw [adM_hit]; simpa using h
  ·right; rw [List.length_append] at h; omega
 ·have:=keep_full hn h1 hin hc.1
  omega
theorem runL_runs {room:Int}:∀ (t:LI) (a:AL) (n:Int),VLists room a→(∀ x∈t,0≤x∧x≤31)→∃ m:Nat,Runs room.toNat room.toNat t (a.o++a.f) ((runL room t a n).1.o++(runL room t a n).1.f) m∧(runL room t a n).2=n+m
 | [],a,n,_,_=>⟨0,⟨rfl,rfl⟩,by simp [runL]⟩
 | k :: t,a,n,v,ht=>by
  have hk:=ht k List.mem_cons_self
  obtain ⟨m,h1,h2⟩:=runL_runs t _ (n+toI (adM room a k).2) (adM_valid v hk) fun x hx=>ht x (List.mem_cons_of_mem _ hx)
  refine ⟨_,h1.step (adM_step v hk),?_⟩
  rw [runL,h2,show (adM room a k).2=decide (k∈a.o++a.f) by rw [adM_hit]; simp,toI_if]
theorem mem_take_plc {l:LI} {n:Int} {k:Nat}:n∈l.take k↔0≤plc l n∧plc l n < k:=by
 constructor
 ·intro h
  have hm:n∈l:=List.mem_of_mem_take h
  obtain ⟨j,h1,h2,h3,h4⟩:=plc_pos hm
  obtain ⟨i,hi⟩:=List.getElem?_of_mem h
  rw [List.getElem?_take] at hi
  split at hi
  ·rename_i hk
   have:j≤i:=Classical.byContradiction fun c=>h3 i (by omega) hi
   rw [h4]; omega
  ·cases hi
 ·intro ⟨h1,h2⟩
  obtain ⟨j,g1,g2,_,g4⟩:=plc_pos (plc_ge.1 h1)
  refine List.mem_of_getElem? (i:=j) ?_
  rw [List.getElem?_take,if_pos (by omega)]; exact g2
def nextM (t:LI) (i key:Int):Int:=i+(nxt key (t.drop i.toNat):Int)
theorem nxt_spec (key:Int):∀ (r:LI),(∀ q,q < nxt key r→r.getD q 0≠key)∧(nxt key r < r.length→r.getD (nxt key r) 0=key)∧(nxt key r=r.length↔key ∉ r)
 | []=>⟨fun q h=>by simp [nxt] at h,fun h=>by simp [nxt] at h,by simp [nxt]⟩
 | k :: r=>by
  obtain ⟨h1,h2,h3⟩:=nxt_spec key r
  unfold nxt
  by_cases e:k=key
  ·rw [if_pos e]
   exact ⟨fun q h=>by omega,fun _=>by simpa using e,by simp [e]⟩
  ·rw [if_neg e]
   refine ⟨fun q h=>?_,fun h=>?_,?_⟩
   ·cases q with
    | zero=>simpa using e
    | succ q=>simpa using h1 q (by omega)
   ·simpa using h2 (by simpa using h)
   ·rw [List.length_cons,List.mem_cons]
    constructor
    ·intro h; have:=h3.1 (by omega); rintro (c | c)
     ·exact e c.symm
     ·exact this c
    ·intro h; have:=h3.2 (fun c=>h (.inr c)); omega
theorem farK_snoc (r:LI) (x:Int):∀ (l:LI) (b:Int),farK r (l++[x]) b=if nxt (farK r l b) r < nxt x r then x else farK r l b
 | [],b=>rfl
 | y :: l,b=>by
  show farK r (l++[x]) _=_
  rw [farK_snoc r x l]; rfl
theorem farM_snoc {r l:LI} {x:Int} (h:0 < l.length):farM r (l++[x])=if nxt (farM r l) r < nxt x r then x else farM r l:=by
 cases l with
 | nil=>simp at h
 | cons y l=>exact farK_snoc r x l y
theorem nxt_drop {t:LI} {i:Nat} {key:Int} (h:i < t.length):nxt key (t.drop i)=if t.getD i 0=key then 0 else nxt key (t.drop (i+1))+1:=by
 rw [List.drop_eq_getElem_cons h,nxt,List.getD_eq_getElem?_getD,List.getElem?_eq_getElem h]; rfl
theorem yes {P A B:Prop} (v:P) (h:A):(P→A)∧(¬ P→B):=⟨fun _=>h,fun c=>absurd v c⟩
theorem nay {P A B:Prop} (v:¬ P) (h:B):(P→A)∧(¬ P→B):=⟨fun c=>absurd c v,fun _=>h⟩
theorem br_yd {p:Prop} [Decidable p] {A B:Prop} (h:p) (g:A):br (decide p) A B:=br_dec.2 ⟨fun _=>g,fun c=>absurd h c⟩
theorem br_nd {p:Prop} [Decidable p] {A B:Prop} (h:¬ p) (g:B):br (decide p) A B:=br_dec.2 ⟨fun c=>absurd c h,fun _=>g⟩
theorem br_ye {a b:Int} {A B:Prop} (h:a=b) (g:A):br (a==b) A B:=br_beq.2 ⟨fun _=>g,fun c=>absurd h c⟩
theorem br_ne {a b:Int} {A B:Prop} (h:a≠b) (g:B):br (a==b) A B:=br_beq.2 ⟨fun c=>absurd c h,fun _=>g⟩
structure RunFacts (room:Int) (t E:LI) (h:Int):Prop where
 pos:0≤h
 best:h≤(bestM room.toNat t []:Int)
 new:h+(nk t:Int)≤t.length
 len:(E.length:Int)≤room
 keys:(E.length:Int)≤nk t
 full:(E.length:Int)=room∨(E.length:Int)=nk t
 fit:(nk t:Int)≤room→h+(nk t:Int)=t.length
 sub:∀ x∈E,x∈t
theorem runs_facts {room:Int} {t E:LI} {h:Int} (hr:1≤room) (H:∃ m:Nat,Runs room.toNat room.toNat t [] E m∧h=0+(m:Int)):RunFacts room t E h:=by
 obtain ⟨m,h1,h2⟩:=H
 have h3:=h1.best (by omega)
 have h4:=h1.new
 obtain ⟨h5,h6⟩:=h1.len
 have h7:=Nat.min_le_left room.toNat (nk t)
 have h8:=Nat.min_le_right room.toNat (nk t)
 have h9:min room.toNat (nk t)=room.toNat∨min room.toNat (nk t)=nk t:=by rcases Nat.le_total room.toNat (nk t) with h | h; exact .inl (Nat.min_eq_left h); exact .inr (Nat.min_eq_right h)
 exact ⟨by omega,by omega,by omega,by omega,by omega,by omega,fun h=>by have:=h6 (by omega); omega,fun x hx=>(h1.sub x hx).resolve_left (by simp)⟩
theorem runR_facts {t:LI} {room:Int} (v:VTrace t) (hr:1≤room∧room≤8):RunFacts room t (runR room t [] 0).1 (runR room t [] 0).2:=runs_facts hr.1 (runR_runs t [] 0 (keys0 hr) v.2)
theorem runF_facts {t:LI} {room:Int} (v:VTrace t) (hr:1≤room∧room≤8):RunFacts room t (runF room t [] 0).1 (runF room t [] 0).2:=runs_facts hr.1 (runF_runs t [] 0 (keys0 hr) v.2)
theorem runC_facts {t:LI} {room:Int} (v:VTrace t) (hr:1≤room∧room≤8):RunFacts room t (runC room t [] [] 0 0).1 (runC room t [] [] 0 0).2.2.2:=runs_facts hr.1 (runC_runs t [] [] 0 0 (clock0 hr) v.2)
theorem runO_facts {t:LI} {room:Int} (v:VTrace t) (hr:1≤room∧room≤8):RunFacts room t ((runO room t [] 0 0).1.map (·.1)) (runO room t [] 0 0).2:=
 runs_facts hr.1 (runO_runs t [] 0 0 (ent_nil hr) v.2 (by simp) (by omega) (by have:=v.1; omega))
theorem runL_facts {t:LI} {room:Int} (v:VTrace t) (hr:1≤room∧room≤8):RunFacts room t ((runL room t ⟨0,[],[],[],[]⟩ 0).1.o++(runL room t ⟨0,[],[],[],[]⟩ 0).1.f) (runL room t ⟨0,[],[],[],[]⟩ 0).2:=
 runs_facts hr.1 (runL_runs t ⟨0,[],[],[],[]⟩ 0 (lists0 hr (by omega)) v.2)
theorem best_facts {t:LI} {room:Int} (v:VTrace t) (hr:1≤room∧room≤8):(bestM room.toNat t []:Int)+nk t≤t.length∧((nk t:Int)≤room→(bestM room.toNat t []:Int)+nk t=t.length):=by
 have h1:=bestM_new (room:=room.toNat) (by omega) t
 have h2:=runR_facts v hr
 have:=h2.best
 exact ⟨by omega,fun h=>by have:=h2.fit h; omega⟩
theorem take_get {t:LI} {i:Nat} (h:i < t.length):t.take (i+1)=t.take i++[t.getD i 0]:=by
 rw [List.take_add_one,some_of (d:=0) h]; rfl
theorem plc_nxt {key:Int} {r:LI} (h:key∈r):plc r key=(nxt key r:Int):=by
 obtain ⟨j,h1,h2,h3,h4⟩:=plc_pos h
 obtain ⟨s1,s2,s3⟩:=nxt_spec key r
 have hlt:nxt key r < r.length:=by
  have:=nxt_le key r
  have:nxt key r≠r.length:=fun c=>s3.1 c h
  omega
 have e1:¬ j < nxt key r:=fun c=>s1 j c (getD_of h2)
 have e2:¬ nxt key r < j:=fun c=>h3 _ c (by rw [some_of (d:=0) hlt,s2 hlt])
 rw [h4]; omega
theorem nxt_out {key:Int} {r:LI} (h:key ∉ r):nxt key r=r.length:=(nxt_spec key r).2.2.2 h
theorem farK_self (r l:LI) (b:Int):farK r (b :: l) b=farK r l b:=by
 rw [farK]; split <;> rfl
theorem set_mid {α:Type} {a r:List α} {x y:α} {i:Nat} (h:a.length=i):(a++x :: r).set i y=a++y :: r:=by
 rw [← h]; simp
theorem usedR_len (t:LI):(usedR [] t).length=nk t:=rfl
theorem runS_facts {t:LI} {trial safe:Int} (v:VTrace t) (ht:1≤trial∧trial≤8) (hs:1≤safe∧safe≤8) :
  0≤(runS trial safe t [] [] 0).2.2∧(runS trial safe t [] [] 0).2.2≤(bestM (trial+safe).toNat t []:Int)∧
  ((nk t:Int)≤trial→(runS trial safe t [] [] 0).2.2+(nk t:Int)=t.length∧((runS trial safe t [] [] 0).2.1++(runS trial safe t [] [] 0).1).length=nk t):=by
 obtain ⟨m,h1,h2⟩:=runS_runs t [] [] 0 (segs0 ht hs) v.2
 have h3:Runs (trial.toNat+safe.toNat) trial.toNat t [] ((runS trial safe t [] [] 0).2.1++(runS trial safe t [] [] 0).1) m:=h1
 have hb:=h3.best (by omega)
 rw [show (trial+safe).toNat=trial.toNat+safe.toNat by omega]
 refine ⟨by omega,by omega,fun hk=>?_⟩
 obtain ⟨f1,f2⟩:=h3.fit (D:=[]) (by simp) (by simp) (fun x=>Iff.rfl) (by rw [usedR_len]; omega)
 rw [usedR_len] at f1
 have hn:=(h3.nodup (by simp) (by simp)).1
 simp only [List.length_nil] at f1
 exact ⟨by omega,nk_of hn fun x=>by rw [f2 x,mem_usedR]; simp⟩
def VSk (s:LI):Prop:=s.length=24∧∀ x∈s,0≤x∧x≤15
def cellM (row key:Int):Int:=row*8+Int.tmod (Int.tmod ((37+2*row)*(key+row)) 101) 8
theorem cellM_range {row key:Int} (h0:0≤row) (k0:0≤key):row*8≤cellM row key∧cellM row key < row*8+8:=by
 have h1:0≤(37+2*row)*(key+row):=Int.mul_nonneg (by omega) (by omega)
 have h2:=Int.tmod_nonneg 101 h1
 have h3:=Int.tmod_nonneg 8 h2
 have h4:=Int.tmod_lt_of_pos (Int.tmod ((37+2*row)*(key+row)) 101) (show (0:Int) < 8 by omega)
 unfold cellM; omega
theorem VSk.get {s:LI} (v:VSk s) (i:Nat):0≤s.getD i 0∧s.getD i 0≤15:=by
 by_cases h:i < s.length
 ·exact v.2 _ (mem_getD h)
 ·rw [List.getD_eq_getElem?_getD,List.getElem?_eq_none (by omega)]; simp
def min2 (a b:Int):Int:=if a < b then a else b
def countM (s:LI) (key:Int):Int:=min2 (s.getD (cellM 2 key).toNat 0) (min2 (s.getD (cellM 1 key).toNat 0) (min2 (s.getD (cellM 0 key).toNat 0) 15))
theorem VSk.count {s:LI} (v:VSk s) (key:Int):0≤countM s key∧countM s key≤15:=by
 have h0:=v.get (cellM 0 key).toNat
 have h1:=v.get (cellM 1 key).toNat
 have h2:=v.get (cellM 2 key).toNat
 unfold countM min2
 repeat' split
 all_goals omega
def Cnt (a n:Int) (s:LI):Prop:=VSk s∧s.getD (cellM 0 a).toNat 0=n∧s.getD (cellM 1 a).toNat 0=n∧s.getD (cellM 2 a).toNat 0=n∧∀ j:Nat,j≠(cellM 0 a).toNat→j≠(cellM 1 a).toNat→j≠(cellM 2 a).toNat→s.getD j 0=0
theorem Cnt.other {a b:Int} {s:LI} (v:Cnt a 15 s) (ha:0≤a) (hb:0≤b):countM s b < 15↔(cellM 0 a≠cellM 0 b∨cellM 1 a≠cellM 1 b∨cellM 2 a≠cellM 2 b):=by
 obtain ⟨vs,e0,e1,e2,eo⟩:=v
 have a0:=cellM_range (row:=0) (by omega) ha
 have a1:=cellM_range (row:=1) (by omega) ha
 have a2:=cellM_range (row:=2) (by omega) ha
 have b0:=cellM_range (row:=0) (by omega) hb
 have b1:=cellM_range (row:=1) (by omega) hb
 have b2:=cellM_range (row:=2) (by omega) hb
 have g0:s.getD (cellM 0 b).toNat 0=if cellM 0 a=cellM 0 b then 15 else 0:=by
  split
  ·rename_i h; rw [← h]; exact e0
  ·exact eo _ (by omega) (by omega) (by omega)
 have g1:s.getD (cellM 1 b).toNat 0=if cellM 1 a=cellM 1 b then 15 else 0:=by
  split
  ·rename_i h; rw [← h]; exact e1
  ·exact eo _ (by omega) (by omega) (by omega)
 have g2:s.getD (cellM 2 b).toNat 0=if cellM 2 a=cellM 2 b then 15 else 0:=by
  split
  ·rename_i h; rw [← h]; exact e2
  ·exact eo _ (by omega) (by omega) (by omega)
 unfold countM
 rw [g0,g1,g2]
 by_cases h0:cellM 0 a=cellM 0 b
 ·by_cases h1:cellM 1 a=cellM 1 b
  ·by_cases h2:cellM 2 a=cellM 2 b
   ·rw [if_pos h0,if_pos h1,if_pos h2]; simp [min2,h0,h1,h2]
   ·rw [if_pos h0,if_pos h1,if_neg h2]; simp [min2,h2]
  ·by_cases h2:cellM 2 a=cellM 2 b
   ·rw [if_pos h0,if_neg h1,if_pos h2]; simp [min2,h1]
   ·rw [if_pos h0,if_neg h1,if_neg h2]; simp [min2,h1]
 ·by_cases h1:cellM 1 a=cellM 1 b
  ·by_cases h2:cellM 2 a=cellM 2 b
   ·rw [if_neg h0,if_pos h1,if_pos h2]; simp [min2,h0]
   ·rw [if_neg h0,if_pos h1,if_neg h2]; simp [min2,h0]
  ·by_cases h2:cellM 2 a=cellM 2 b
   ·rw [if_neg h0,if_neg h1,if_pos h2]; simp [min2,h0]
   ·rw [if_neg h0,if_neg h1,if_neg h2]; simp [min2,h0]
def PTm (l:List (Int×Int)):Prop:=(∀ e∈l,(0≤e.1∧e.1≤31)∧0≤e.2∧e.2≤1000)∧l.Pairwise fun a b=>a.1 < b.1
def VTm (l:List (Int×Int)):Prop:=l.length≤12∧PTm l
theorem PTm.lt {l:List (Int×Int)} (v:PTm l) {i j:Nat} (h:i < j) (hj:j < l.length):(l.getD i ((0:Int),(0:Int))).1 < (l.getD j ((0:Int),(0:Int))).1:=by
 have:=List.pairwise_iff_getElem.1 v.2 i j (by omega) hj h
 rw [List.getD_eq_getElem?_getD,List.getElem?_eq_getElem (by omega),List.getD_eq_getElem?_getD,List.getElem?_eq_getElem hj]
 exact this
theorem PTm.uniq {l:List (Int×Int)} (v:PTm l) {a b:Int×Int} (ha:a∈l) (hb:b∈l) (h:a.1=b.1):a=b:=by
 obtain ⟨i,hi,ei⟩:=List.getElem_of_mem ha
 obtain ⟨j,hj,ej⟩:=List.getElem_of_mem hb
 rcases Nat.lt_trichotomy i j with c | c | c
 ·have:=List.pairwise_iff_getElem.1 v.2 i j hi hj c
  rw [ei,ej] at this; omega
 ·subst c; rw [← ei,← ej]
 ·have:=List.pairwise_iff_getElem.1 v.2 j i hj hi c
  rw [ei,ej] at this; omega
theorem PTm.snoc {u:List (Int×Int)} {x:Int×Int} (v:PTm u) (hx:(0≤x.1∧x.1≤31)∧0≤x.2∧x.2≤1000) (h:u=[]∨(u.getD (u.length - 1) ((0:Int),(0:Int))).1 < x.1):PTm (u++[x]):=by
 refine ⟨fun e he=>?_,List.pairwise_append.2 ⟨v.2,by simp,fun a ha b hb=>?_⟩⟩
 ·rcases List.mem_append.1 he with g | g
  ·exact v.1 e g
  ·rw [List.mem_singleton.1 g]; exact hx
 ·rw [List.mem_singleton.1 hb]
  rcases h with c | c
  ·rw [c] at ha; simp at ha
  ·obtain ⟨i,hi,ei⟩:=List.getElem_of_mem ha
   have e1:u.getD i ((0:Int),(0:Int))=a:=by rw [List.getD_eq_getElem?_getD,List.getElem?_eq_getElem hi]; exact ei
   by_cases g:i=u.length - 1
   ·rw [← e1,g]; exact c
   ·have:=v.lt (i:=i) (j:=u.length - 1) (by omega) (by omega)
    rw [e1] at this; omega
theorem PTm.filter {l:List (Int×Int)} (v:PTm l) (p:Int×Int→Bool):PTm (l.filter p):=⟨fun e he=>v.1 e (List.mem_filter.1 he).1,v.2.filter p⟩
def putM (l:List (Int×Int)) (key until_:Int):List (Int×Int):=l.filter (fun e=>decide (e.1 < key))++(key,until_) :: l.filter (fun e=>decide (key < e.1))
def PutOK (l:List (Int×Int)) (key until_:Int):Prop:=VTm l∧(0≤key∧key≤31)∧(0≤until_∧until_≤1000)∧(putM l key until_).length≤12
theorem PTm.put {l:List (Int×Int)} {key until_:Int} (v:PTm l) (h1:0≤key∧key≤31) (h2:0≤until_∧until_≤1000):PTm (putM l key until_):=by
 refine ⟨fun e he=>?_,List.pairwise_append.2 ⟨v.2.filter _,List.pairwise_cons.2 ⟨fun b hb=>?_,v.2.filter _⟩,fun a ha b hb=>?_⟩⟩
 ·rcases List.mem_append.1 he with g | g
  ·exact v.1 e (List.mem_filter.1 g).1
  ·rcases List.mem_cons.1 g with g | g
   ·rw [g]; exact ⟨h1,h2⟩
   ·exact v.1 e (List.mem_filter.1 g).1
 ·have:=(List.mem_filter.1 hb).2
  exact of_decide_eq_true this
 ·have h3:=of_decide_eq_true (List.mem_filter.1 ha).2
  rcases List.mem_cons.1 hb with g | g
  ·rw [g]; exact h3
  ·have h4:=of_decide_eq_true (List.mem_filter.1 g).2
   omega
theorem PutOK.valid {l:List (Int×Int)} {key until_:Int} (h:PutOK l key until_):VTm (putM l key until_):=⟨h.2.2.2,h.1.2.put h.2.1 h.2.2.1⟩
theorem filter_none {l:List (Int×Int)} {p:Int×Int→Bool} (h:∀ e∈l,p e=false):l.filter p=[]:=List.filter_eq_nil_iff.2 fun e he=>by rw [h e he]; simp
def dropM (l:List (Int×Int)) (now:Int):List (Int×Int):=l.filter fun e=>decide (now≤e.2)
theorem dropM_len (l:List (Int×Int)) (now:Int):(dropM l now).length≤l.length:=List.length_filter_le _ _
theorem VTm.drop {l:List (Int×Int)} (v:VTm l) (now:Int):VTm (dropM l now):=⟨Nat.le_trans (dropM_len l now) v.1,v.2.filter _⟩
def lowT (l:List (Int×Int)) (key:Int):Nat:=(l.filter (fun e=>decide (e.1 < key))).length
theorem PTm.low {l:List (Int×Int)} (v:PTm l) (key:Int):l.filter (fun e=>decide (e.1 < key))=l.take (lowT l key)∧∀ e∈l.drop (lowT l key),key≤e.1:=by
 have key:∀ l:List (Int×Int),l.Pairwise (fun a b=>a.1 < b.1)→l.filter (fun e=>decide (e.1 < key))=l.take (lowT l key)∧∀ e∈l.drop (lowT l key),key≤e.1:=by
  intro l hp
  unfold lowT
  induction l with
  | nil=>simp
  | cons x l ih=>
   obtain ⟨h1,h2⟩:=List.pairwise_cons.1 hp
   by_cases c:x.1 < key
   ·rw [List.filter_cons_of_pos (by simpa using c),List.length_cons,List.take_succ_cons,List.drop_succ_cons]
    obtain ⟨i1,i2⟩:=ih h2
    exact ⟨by rw [← i1],i2⟩
   ·have e0:(x :: l).filter (fun e=>decide (e.1 < key))=[]:=filter_none fun e he=>decide_eq_false (by
     rcases List.mem_cons.1 he with g | g
     ·rw [g]; exact c
     ·have:=h1 e g; omega)
    rw [e0]
    refine ⟨rfl,fun e he=>?_⟩
    rcases List.mem_cons.1 he with g | g
    ·rw [g]; omega
    ·have:=h1 e g; omega
 exact key l v.2
def sumW:List (Int×Int)→Int
 | []=>0
 | e :: r=>e.2+sumW r
theorem sumW_nonneg:∀ {l:List (Int×Int)},(∀ e∈l,0≤e.2)→0≤sumW l
 | [],_=>by simp [sumW]
 | e :: l,h=>by
  have:=h e List.mem_cons_self
  have:=sumW_nonneg (l:=l) fun x hx=>h x (List.mem_cons_of_mem _ hx)
  rw [sumW]; omega
def PW (l:List (Int×Int)):Prop:=(∀ e∈l,(0≤e.1∧e.1≤31)∧1≤e.2∧e.2≤20)∧(l.map (·.1)).Nodup
def VW (l:List (Int×Int)) (room:Int):Prop:=PW l∧(1≤room∧room≤50)∧sumW l≤room
theorem PW.sizes {l:List (Int×Int)} (v:PW l):∀ e∈l,0≤e.2:=fun e he=>by have:=(v.1 e he).2; omega
theorem PW.len_sum:∀ {l:List (Int×Int)},(∀ e∈l,1≤e.2)→(l.length:Int)≤sumW l
 | [],_=>by simp [sumW]
 | e :: l,h=>by
  have:=h e List.mem_cons_self
  have:=PW.len_sum (l:=l) fun x hx=>h x (List.mem_cons_of_mem _ hx)
  rw [sumW,List.length_cons]; omega
theorem VW.len {l:List (Int×Int)} {room:Int} (v:VW l room):l.length≤50:=by
 have:=PW.len_sum (l:=l) fun e he=>(v.1.1 e he).2.1
 have:=v.2.1; have:=v.2.2; omega
def cutM:List (Int×Int)→Int→List (Int×Int)
 | [],_=>[]
 | e :: r,room=>if e.2≤room then e :: cutM r (room - e.2) else []
theorem cutM_len:∀ (l:List (Int×Int)) (room:Int),(cutM l room).length≤l.length
 | [],_=>by simp [cutM]
 | e :: r,room=>by
  rw [cutM]; split
  ·simp only [List.length_cons]; have:=cutM_len r (room - e.2); omega
  ·simp
theorem cutM_take:∀ (l:List (Int×Int)) (room:Int),cutM l room=l.take (cutM l room).length
 | [],_=>by simp [cutM]
 | e :: r,room=>by
  rw [cutM]; split
  ·rw [List.length_cons,List.take_succ_cons,← cutM_take r (room - e.2)]
  ·simp
theorem cutM_iff:∀ {l:List (Int×Int)} {room:Int} {q:Nat},(∀ e∈l,0≤e.2)→0≤room→q≤l.length→(sumW (l.take q)≤room↔q≤(cutM l room).length)
 | [],room,q,_,hr,hq=>by
  have:q=0:=by simpa using hq
  subst this; simp [sumW,hr]
 | e :: r,room,0,_,hr,_=>by simp [sumW,hr]
 | e :: r,room,q+1,h,hr,hq=>by
  have he:=h e List.mem_cons_self
  have hh:∀ x∈r,0≤x.2:=fun x hx=>h x (List.mem_cons_of_mem _ hx)
  rw [List.take_succ_cons,sumW,cutM]
  split
  ·rename_i c
   have:=cutM_iff (l:=r) (room:=room - e.2) (q:=q) hh (by omega) (by simpa using hq)
   rw [List.length_cons]
   constructor
   ·intro g; have:=this.1 (by omega); omega
   ·intro g; have:=this.2 (by omega); omega
  ·rename_i c
   have:=sumW_nonneg (l:=r.take q) fun x hx=>hh x (List.mem_of_mem_take hx)
   simp; omega
theorem cutM_fits {l:List (Int×Int)} {room:Int} (h:∀ e∈l,0≤e.2) (hr:0≤room):sumW (cutM l room)≤room:=by
 rw [cutM_take]; exact (cutM_iff h hr (cutM_len l room)).2 (Nat.le_refl _)
def othersW (l:List (Int×Int)) (key:Int):List (Int×Int):=l.filter fun e=>decide (e.1≠key)
def allW (l:List (Int×Int)) (key size:Int):List (Int×Int):=(key,size) :: othersW l key
theorem PW.all {l:List (Int×Int)} (v:PW l) {key size:Int} (hk:0≤key∧key≤31) (hs:1≤size∧size≤20):PW (allW l key size):=by
 refine ⟨fun e he=>?_,?_⟩
 ·rcases List.mem_cons.1 he with g | g
  ·rw [g]; exact ⟨hk,hs⟩
  ·exact v.1 e (List.mem_filter.1 g).1
 ·rw [allW,List.map_cons,List.nodup_cons]
  refine ⟨fun h=>?_,(v.2.sublist (List.Sublist.map _ List.filter_sublist))⟩
  obtain ⟨e,he,h2⟩:=List.mem_map.1 h
  exact absurd h2 (of_decide_eq_true (List.mem_filter.1 he).2)
theorem PW.take {l:List (Int×Int)} (v:PW l) (n:Nat):PW (l.take n):=
 ⟨fun e he=>v.1 e (List.mem_of_mem_take he),v.2.sublist ((List.take_sublist _ _).map _)⟩
theorem PW.cut {l:List (Int×Int)} (v:PW l) {room:Int} (hr:1≤room∧room≤50):VW (cutM l room) room:=by
 refine ⟨?_,hr,cutM_fits v.sizes (by omega)⟩
 rw [cutM_take]; exact v.take _
def useW (l:List (Int×Int)) (room key size:Int):List (Int×Int)×Int:=
 (cutM (allW l key size) room,((allW l key size).length:Int) - ((cutM (allW l key size) room).length:Int) - if room < size then 1 else 0)
def UseWOK (l:List (Int×Int)) (room key size:Int):Prop:=VW l room∧(0≤key∧key≤31)∧1≤size∧size≤20
theorem UseWOK.valid {l:List (Int×Int)} {room key size:Int} (h:UseWOK l room key size):VW (useW l room key size).1 room:=(h.1.1.all h.2.1 h.2.2).cut h.1.2.1
theorem PW.snoc {u:List (Int×Int)} {x:Int×Int} (v:PW u) (hx:(0≤x.1∧x.1≤31)∧1≤x.2∧x.2≤20) (hn:∀ e∈u,e.1≠x.1):PW (u++[x]):=by
 refine ⟨fun e he=>?_,?_⟩
 ·rcases List.mem_append.1 he with g | g
  ·exact v.1 e g
  ·rw [List.mem_singleton.1 g]; exact hx
 ·rw [List.map_append,List.nodup_append]
  refine ⟨v.2,by simp,fun a ha b hb c=>?_⟩
  obtain ⟨e,he,h2⟩:=List.mem_map.1 ha
  simp only [List.map_cons,List.map_nil,List.mem_singleton] at hb
  exact hn e he (by rw [h2,c,hb])
theorem takeI {l:LI} {i:Nat} (h:i < l.length):l.take (i+1)=l.take i++[l.getD i 0]:=by
 rw [List.take_add_one,List.getD_eq_getElem?_getD,List.getElem?_eq_getElem h]; rfl
theorem getI_mem {l:LI} {i:Nat} (h:i < l.length):l.getD i 0∈l:=by
 rw [List.getD_eq_getElem?_getD,List.getElem?_eq_getElem h]; exact List.getElem_mem h
theorem getL_mem {l:LT} {i:Nat} (h:i < l.length):l.getD i ((0:Int),(0:Int),false)∈l:=by
 rw [List.getD_eq_getElem?_getD,List.getElem?_eq_getElem h]; exact List.getElem_mem h
theorem takeL {l:LT} {i:Nat} (h:i < l.length):l.take (i+1)=l.take i++[l.getD i ((0:Int),(0:Int),false)]:=by
 rw [List.take_add_one,List.getD_eq_getElem?_getD,List.getElem?_eq_getElem h]; rfl
theorem dropL {l:LT} {i:Nat} (h:i < l.length):l.drop i=l.getD i ((0:Int),(0:Int),false) :: l.drop (i+1):=by
 rw [List.drop_eq_getElem_cons h,List.getD_eq_getElem?_getD,List.getElem?_eq_getElem h]; rfl
def VLn (l:LT) (room:Int):Prop:=
 ((∀ e∈l,(0≤e.1∧e.1≤31)∧-1000≤e.2.1∧e.2.1≤1000)∧(l.map (·.1)).Nodup)∧(1≤room∧room≤8)∧(l.length:Int)≤room
def VSt (s:LI):Prop:=s.length=32∧∀ x∈s,-1000≤x∧x≤1000
def Clean (s:LI) (l:LT):Prop:=∀ e∈l,e.2.2=false→e.2.1=s.getD e.1.toNat 0
def VMem (s:LI) (l:LT) (room:Int):Prop:=VSt s∧VLn l room∧Clean s l
theorem VMem.len {s:LI} {l:LT} {room:Int} (v:VMem s l room):s.length=32∧l.length≤8:=by
 obtain ⟨v1,v2,_⟩:=v; exact ⟨v1.1,by have:=v2.2; omega⟩
theorem nodup_atL {l:LI} (h:l.Nodup) {i j:Nat} {a:Int} (hi:l[i]?=some a) (hj:l[j]?=some a):i=j:=by
 obtain ⟨h1,e1⟩:=List.getElem?_eq_some_iff.1 hi
 obtain ⟨h2,e2⟩:=List.getElem?_eq_some_iff.1 hj
 have hp:=List.pairwise_iff_getElem.1 h
 rcases Nat.lt_trichotomy i j with c | c | c
 ·exact absurd (e1.trans e2.symm) (hp i j h1 h2 c)
 ·exact c
 ·exact absurd (e2.trans e1.symm) (hp j i h2 h1 c)
theorem VMem.uniq {s:LI} {l:LT} {room:Int} (v:VMem s l room) {a b:Int×Int×Bool} (ha:a∈l) (hb:b∈l) (h:a.1=b.1):a=b:=by
 have hn:=v.2.1.1.2
 obtain ⟨i,hi,rfl⟩:=List.getElem_of_mem ha
 obtain ⟨j,hj,rfl⟩:=List.getElem_of_mem hb
 have:i=j:=nodup_atL hn (a:=(l[i]).1) (by rw [List.getElem?_map,List.getElem?_eq_getElem hi]; rfl) (by rw [List.getElem?_map,List.getElem?_eq_getElem hj,h]; rfl)
 subst this; rfl
theorem map_inj_nodup {l:LT} (h:(l.map (·.1)).Nodup) {i j:Nat} (hi:i < l.length) (hj:j < l.length) (e:(l.getD i ((0:Int),(0:Int),false)).1=(l.getD j ((0:Int),(0:Int),false)).1):i=j:=by
 rw [List.getD_eq_getElem?_getD,List.getElem?_eq_getElem hi,List.getD_eq_getElem?_getD,List.getElem?_eq_getElem hj] at e
 exact nodup_atL h (a:=(l[i]).1) (by rw [List.getElem?_map,List.getElem?_eq_getElem hi]; rfl) (by rw [List.getElem?_map,List.getElem?_eq_getElem hj]; exact congrArg some (by simpa using e.symm))
def lnM (s:LI):LT→Int→Int×Int×Bool
 | [],key=>(key,s.getD key.toNat 0,false)
 | e :: r,key=>if e.1=key then e else lnM s r key
def valM (s:LI) (l:LT) (key:Int):Int:=(lnM s l key).2.1
theorem lnM_key (s:LI):∀ (l:LT) (key:Int),(lnM s l key).1=key
 | [],key=>rfl
 | e :: r,key=>by
  rw [lnM]; split
  ·assumption
  ·exact lnM_key s r key
theorem lnM_in {s:LI}:∀ {l:LT} {key:Int},(∃ e∈l,e.1=key)→lnM s l key∈l
 | [],key,h=>by simp at h
 | e :: r,key,h=>by
  rw [lnM]; split
  ·exact List.mem_cons_self
  ·rename_i hne
   obtain ⟨x,hx,e1⟩:=h
   rcases List.mem_cons.1 hx with rfl | hx
   ·exact absurd e1 hne
   ·exact List.mem_cons_of_mem _ (lnM_in ⟨x,hx,e1⟩)
theorem lnM_out {s:LI}:∀ {l:LT} {key:Int},(∀ e∈l,e.1≠key)→lnM s l key=(key,s.getD key.toNat 0,false)
 | [],key,h=>rfl
 | e :: r,key,h=>by rw [lnM,if_neg (h e List.mem_cons_self)]; exact lnM_out fun x hx=>h x (List.mem_cons_of_mem _ hx)
theorem VMem.look {s:LI} {l:LT} {room:Int} (v:VMem s l room) {e:Int×Int×Bool} (he:e∈l):lnM s l e.1=e:=
 v.uniq (lnM_in ⟨e,he,rfl⟩) he (lnM_key s l e.1)
def othL (l:LT) (key:Int):LT:=l.filter fun e=>decide (e.1≠key)
def accR (l:LT) (room key:Int):LT:=if ((othL l key).length:Int)=room then (othL l key).take ((othL l key).length - 1) else othL l key
def lastL (l:LT):Int×Int×Bool:=l.getD (l.length - 1) ((0:Int),(0:Int),false)
def accS (s:LI) (l:LT) (room key:Int):LI:=if ((othL l key).length:Int)=room then s.set (lastL (othL l key)).1.toNat (lastL (othL l key)).2.1 else s
def readM (s:LI) (l:LT) (room key:Int):LT:=lnM s l key :: accR l room key
def wrtM (l:LT) (room key value:Int):LT:=(key,value,true) :: accR l room key
theorem othL_mem {l:LT} {key:Int} {e:Int×Int×Bool}:e∈othL l key↔e∈l∧e.1≠key:=by unfold othL; rw [List.mem_filter]; simp
theorem othL_out {l:LT} {key:Int} (h:∀ e∈l,e.1≠key):othL l key=l:=List.filter_eq_self.2 fun e he=>decide_eq_true (h e he)
theorem othL_len (l:LT) (key:Int):(othL l key).length≤l.length:=List.length_filter_le _ _
theorem othL_lt {l:LT} {key:Int} (h:∃ e∈l,e.1=key):(othL l key).length < l.length:=by
 obtain ⟨e,he,e1⟩:=h
 rcases Nat.lt_or_ge (othL l key).length l.length with h | h
 ·exact h
 ·have:=List.filter_eq_self.1 (List.Sublist.eq_of_length_le (List.filter_sublist (p:=fun e:Int×Int×Bool=>decide (e.1≠key)) (l:=l)) h) e he
  simp at this; exact absurd e1 this
theorem accR_sub {l:LT} {room key:Int} {e:Int×Int×Bool} (h:e∈accR l room key):e∈othL l key:=by
 unfold accR at h; split at h
 ·exact List.mem_of_mem_take h
 ·exact h
theorem accR_len {l:LT} {room key:Int} (h:(l.length:Int)≤room) (hr:1≤room):((accR l room key).length:Int)+1≤room:=by
 have:=othL_len l key
 unfold accR; split
 ·rw [List.length_take]; omega
 ·omega
theorem accR_le (l:LT) (room key:Int):(accR l room key).length≤l.length:=by
 have:=othL_len l key
 unfold accR; split
 ·rw [List.length_take]; omega
 ·omega
theorem lastL_mem {l:LT} (h:0 < l.length):lastL l∈l:=getL_mem (by omega)
theorem lastL_split {l:LT} (h:0 < l.length):l=l.take (l.length - 1)++[lastL l]:=by
 have:=takeL (l:=l) (i:=l.length - 1) (by omega)
 rw [show l.length - 1+1=l.length by omega,List.take_length] at this
 exact this
theorem VMem.full {s:LI} {l:LT} {room key:Int} (v:VMem s l room) (h:((othL l key).length:Int)=room):(∀ e∈l,e.1≠key)∧othL l key=l∧0 < l.length:=by
 have hv:=v.2.1.2
 have h0:∀ e∈l,e.1≠key:=fun e he e1=>by have:=othL_lt ⟨e,he,e1⟩; omega
 exact ⟨h0,othL_out h0,by rw [othL_out h0] at h; omega⟩
theorem getD_setI {s:LI} {i j:Nat} {x:Int}:(s.set i x).getD j 0=if i=j∧j < s.length then x else s.getD j 0:=by
 rw [List.getD_eq_getElem?_getD,List.getD_eq_getElem?_getD,List.getElem?_set]
 by_cases h:i=j
 ·subst h
  by_cases h2:i < s.length
  ·simp [h2]
  ·simp [h2]
 ·simp [h]
theorem VSt.set {s:LI} (v:VSt s) {i:Nat} {x:Int} (h:-1000≤x∧x≤1000):VSt (s.set i x):=
 ⟨by rw [List.length_set]; exact v.1,fun y hy=>by
  rcases List.mem_or_eq_of_mem_set hy with hy | rfl
  ·exact v.2 y hy
  ·exact h⟩
theorem VSt.get {s:LI} (v:VSt s) {i:Nat} (h:i < 32):-1000≤s.getD i 0∧s.getD i 0≤1000:=v.2 _ (getI_mem (by rw [v.1]; exact h))
theorem toNat_inj {a b:Int} (ha:0≤a) (hb:0≤b) (h:a.toNat=b.toNat):a=b:=by omega
theorem accS_get {s:LI} {l:LT} {room key k:Int} (v:VMem s l room) (hk:0≤k∧k≤31) :
  (accS s l room key).getD k.toNat 0=if ((othL l key).length:Int)=room∧(lastL (othL l key)).1=k then (lastL (othL l key)).2.1 else s.getD k.toNat 0:=by
 unfold accS
 split
 ·rename_i h
  obtain ⟨h1,h2,h3⟩:=v.full h
  have hm:lastL (othL l key)∈l:=by rw [h2]; exact lastL_mem h3
  have hr:=(v.2.1.1.1 _ hm).1
  rw [getD_setI]
  by_cases e:(lastL (othL l key)).1=k
  ·rw [if_pos ⟨by rw [e],by rw [v.1.1]; omega⟩,if_pos ⟨h,e⟩]
  ·rw [if_neg fun c=>e (toNat_inj hr.1 hk.1 c.1),if_neg fun c=>e c.2]
 ·rename_i h; rw [if_neg fun c=>h c.1]
theorem accS_ok {s:LI} {l:LT} {room key:Int} (v:VMem s l room):VSt (accS s l room key):=by
 unfold accS; split
 ·rename_i h
  obtain ⟨h1,h2,h3⟩:=v.full h
  have hm:lastL (othL l key)∈l:=by rw [h2]; exact lastL_mem h3
  exact v.1.set (v.2.1.1.1 _ hm).2
 ·exact v.1
theorem nodup_othL {l:LT} (h:(l.map (·.1)).Nodup) (key:Int):((othL l key).map (·.1)).Nodup:=h.sublist (List.filter_sublist.map _)
theorem nodup_accR {l:LT} (h:(l.map (·.1)).Nodup) (room key:Int):((accR l room key).map (·.1)).Nodup:=by
 unfold accR; split
 ·exact (nodup_othL h key).sublist ((List.take_sublist _ _).map _)
 ·exact nodup_othL h key
theorem VMem.stays {s:LI} {l:LT} {room key:Int} (v:VMem s l room) {e:Int×Int×Bool} (he:e∈accR l room key):¬ (((othL l key).length:Int)=room∧(lastL (othL l key)).1=e.1):=by
 rintro ⟨h,e1⟩
 obtain ⟨h1,h2,h3⟩:=v.full h
 have hn:=v.2.1.1.2
 unfold accR at he; rw [if_pos h,h2] at he; rw [h2] at e1
 rw [lastL_split h3,List.map_append,List.map_cons,List.map_nil] at hn
 exact (List.nodup_append.1 hn).2.2 e.1 (List.mem_map_of_mem (f:=(·.1)) he) (lastL l).1 (by simp) e1.symm
theorem VMem.cleanR {s:LI} {l:LT} {room key:Int} (v:VMem s l room):Clean (accS s l room key) (accR l room key):=by
 intro e he hd
 have hm:=othL_mem.1 (accR_sub he)
 rw [accS_get v (v.2.1.1.1 e hm.1).1,if_neg (v.stays he)]
 exact v.2.2 e hm.1 hd
theorem VMem.putFirst {s:LI} {l:LT} {room key:Int} (v:VMem s l room) {x:Int×Int×Bool} (hk:0≤key∧key≤31) (hx:x.1=key) (h1:-1000≤x.2.1∧x.2.1≤1000) (h2:x.2.2=false→x.2.1=(accS s l room key).getD key.toNat 0) :
  VMem (accS s l room key) (x :: accR l room key) room:=by
 refine ⟨accS_ok v,⟨⟨fun e he=>?_,?_⟩,v.2.1.2.1,?_⟩,fun e he hd=>?_⟩
 ·rcases List.mem_cons.1 he with rfl | he
  ·exact ⟨by omega,h1⟩
  ·exact v.2.1.1.1 e (othL_mem.1 (accR_sub he)).1
 ·rw [List.map_cons,List.nodup_cons]
  refine ⟨fun h=>?_,nodup_accR v.2.1.1.2 room key⟩
  obtain ⟨e,he,e1⟩:=List.mem_map.1 h
  exact (othL_mem.1 (accR_sub he)).2 (e1.trans hx)
 ·have:=accR_len (key:=key) v.2.1.2.2 v.2.1.2.1.1
  rw [List.length_cons]; omega
 ·rcases List.mem_cons.1 he with rfl | he
  ·rw [hx]; exact h2 hd
  ·exact v.cleanR e he hd
theorem VMem.here {s:LI} {l:LT} {room key:Int} (v:VMem s l room):(lastL (othL l key)).1≠key∨¬ ((othL l key).length:Int)=room:=by
 by_cases h:((othL l key).length:Int)=room
 ·obtain ⟨h1,h2,h3⟩:=v.full h
  refine .inl fun e=>h1 _ ?_ e
  rw [h2]; exact lastL_mem h3
 ·exact .inr h
theorem VMem.val_range {s:LI} {l:LT} {room key:Int} (v:VMem s l room) (hk:0≤key∧key≤31):-1000≤valM s l key∧valM s l key≤1000:=by
 by_cases h:∃ e∈l,e.1=key
 ·exact (v.2.1.1.1 _ (lnM_in h)).2
 ·unfold valM; rw [lnM_out fun e he e1=>h ⟨e,he,e1⟩]; exact v.1.get (by omega)
theorem accS_key {s:LI} {l:LT} {room key:Int} (v:VMem s l room) (hk:0≤key∧key≤31):(accS s l room key).getD key.toNat 0=s.getD key.toNat 0:=by
 rw [accS_get v hk,if_neg fun c=>(v.here (key:=key)).elim (fun h=>h c.2) fun h=>h c.1]
theorem VMem.read {s:LI} {l:LT} {room key:Int} (v:VMem s l room) (hk:0≤key∧key≤31):VMem (accS s l room key) (readM s l room key) room:=by
 refine v.putFirst hk (lnM_key s l key) (v.val_range hk) fun hd=>?_
 rw [accS_key v hk]
 by_cases h:∃ e∈l,e.1=key
 ·have:=v.2.2 _ (lnM_in (s:=s) h) hd
  rwa [lnM_key] at this
 ·rw [lnM_out fun e he e1=>h ⟨e,he,e1⟩]
theorem VMem.write {s:LI} {l:LT} {room key value:Int} (v:VMem s l room) (hk:0≤key∧key≤31) (hx:-1000≤value∧value≤1000):VMem (accS s l room key) (wrtM l room key value) room:=
 v.putFirst (x:=(key,value,true)) hk rfl hx fun hd=>by cases hd
def flushS:LT→LI→LI
 | [],s=>s
 | e :: r,s=>flushS r (s.set e.1.toNat e.2.1)
def flushL (l:LT):LT:=l.map fun e=>(e.1,e.2.1,false)
def dirtyL (l:LT):LI:=(l.filter (·.2.2)).map (·.1)
theorem flushS_snoc:∀ (l:LT) (e:Int×Int×Bool) (s:LI),flushS (l++[e]) s=(flushS l s).set e.1.toNat e.2.1
 | [],e,s=>rfl
 | x :: r,e,s=>flushS_snoc r e (s.set x.1.toNat x.2.1)
theorem flushS_ok:∀ {l:LT} {s:LI},VSt s→(∀ e∈l,-1000≤e.2.1∧e.2.1≤1000)→VSt (flushS l s)
 | [],s,v,_=>v
 | x :: r,s,v,h=>by
  rw [flushS]
  exact flushS_ok (v.set (h x List.mem_cons_self)) fun e he=>h e (List.mem_cons_of_mem _ he)
theorem flushS_get:∀ {l:LT} {s:LI} {k:Int},s.length=32→(∀ e∈l,0≤e.1∧e.1≤31)→(l.map (·.1)).Nodup→0≤k→k≤31→(flushS l s).getD k.toNat 0=valM s l k
 | [],s,k,_,_,_,_,_=>rfl
 | x :: r,s,k,h1,h2,h3,h4,h5=>by
  rw [List.map_cons,List.nodup_cons] at h3
  have hx:=h2 x List.mem_cons_self
  rw [flushS,flushS_get (by rw [List.length_set]; exact h1) (fun e he=>h2 e (List.mem_cons_of_mem _ he)) h3.2 h4 h5]
  unfold valM; rw [lnM]
  by_cases e:x.1=k
  ·rw [if_pos e,lnM_out fun y hy e1=>h3.1 (by rw [e,← e1]; exact List.mem_map_of_mem (f:=(·.1)) hy)]
   show (s.set x.1.toNat x.2.1).getD k.toNat 0=_
   rw [getD_setI,if_pos ⟨by rw [e],by omega⟩]
  ·rw [if_neg e]
   by_cases h:∃ y∈r,y.1=k
   ·clear h3 h2
    induction r with
    | nil=>simp at h
    | cons y r ih=>
     rw [lnM,lnM]
     by_cases e2:y.1=k
     ·rw [if_pos e2,if_pos e2]
     ·rw [if_neg e2,if_neg e2]
      refine ih ?_
      obtain ⟨z,hz,e3⟩:=h
      rcases List.mem_cons.1 hz with rfl | hz
      ·exact absurd e3 e2
      ·exact ⟨z,hz,e3⟩
   ·rw [lnM_out fun y hy e1=>h ⟨y,hy,e1⟩,lnM_out fun y hy e1=>h ⟨y,hy,e1⟩]
    show (s.set x.1.toNat x.2.1).getD k.toNat 0=s.getD k.toNat 0
    rw [getD_setI,if_neg fun c=>e (toNat_inj hx.1 h4 c.1)]
theorem VMem.flush_get {s:LI} {l:LT} {room k:Int} (v:VMem s l room) (hk:0≤k∧k≤31):(flushS l s).getD k.toNat 0=valM s l k:=
 flushS_get v.1.1 (fun e he=>(v.2.1.1.1 e he).1) v.2.1.1.2 hk.1 hk.2
theorem flushL_keys (l:LT):(flushL l).map (·.1)=l.map (·.1):=by unfold flushL; rw [List.map_map]; rfl
theorem VMem.flush {s:LI} {l:LT} {room:Int} (v:VMem s l room):VMem (flushS l s) (flushL l) room:=by
 refine ⟨flushS_ok v.1 fun e he=>(v.2.1.1.1 e he).2,⟨⟨fun e he=>?_,by rw [flushL_keys]; exact v.2.1.1.2⟩,v.2.1.2.1,by unfold flushL; rw [List.length_map]; exact v.2.1.2.2⟩,fun e he _=>?_⟩
 ·obtain ⟨x,hx,rfl⟩:=List.mem_map.1 he
  exact v.2.1.1.1 x hx
 ·obtain ⟨x,hx,rfl⟩:=List.mem_map.1 he
  show x.2.1=(flushS l s).getD x.1.toNat 0
  rw [v.flush_get (v.2.1.1.1 x hx).1]
  unfold valM; rw [v.look hx]
theorem dirtyL_mem {l:LT} {k:Int}:k∈dirtyL l↔∃ e∈l,e.1=k∧e.2.2=true:=by
 unfold dirtyL; rw [List.mem_map]
 exact ⟨fun ⟨e,he,e1⟩=>⟨e,(List.mem_filter.1 he).1,e1,(List.mem_filter.1 he).2⟩,fun ⟨e,he,e1,e2⟩=>⟨e,List.mem_filter.2 ⟨he,e2⟩,e1⟩⟩
theorem dirtyL_len (l:LT):(dirtyL l).length≤l.length:=by unfold dirtyL; rw [List.length_map]; exact List.length_filter_le _ _
theorem othL_at {l:LT} {key:Int} {i:Nat} (hn:(l.map (·.1)).Nodup) (hi:i < l.length) (hk:(l.getD i ((0:Int),(0:Int),false)).1=key):othL l key=l.take i++l.drop (i+1):=by
 have h1:∀ e∈l.take i,e.1≠key:=fun e he e1=>by
  obtain ⟨q,q1,q2⟩:=List.getElem_of_mem he
  rw [List.length_take] at q1
  rw [List.getElem_take] at q2
  have:=map_inj_nodup hn (i:=q) (j:=i) (by omega) hi (by rw [hk,← e1,← q2,List.getD_eq_getElem?_getD,List.getElem?_eq_getElem (by omega)]; rfl)
  omega
 have h2:∀ e∈l.drop (i+1),e.1≠key:=fun e he e1=>by
  obtain ⟨q,q1,q2⟩:=List.getElem_of_mem he
  rw [List.length_drop] at q1
  rw [List.getElem_drop] at q2
  have:=map_inj_nodup hn (i:=i+1+q) (j:=i) (by omega) hi (by rw [hk,← e1,← q2,List.getD_eq_getElem?_getD,List.getElem?_eq_getElem (by omega)]; rfl)
  omega
 have e:l=l.take i++(l.getD i ((0:Int),(0:Int),false) :: l.drop (i+1)):=by rw [← dropL hi,List.take_append_drop]
 unfold othL
 conv=>lhs; rw [e]
 rw [List.filter_append,List.filter_cons_of_neg (by simpa using hk),List.filter_eq_self.2 fun e he=>decide_eq_true (h1 e he),List.filter_eq_self.2 fun e he=>decide_eq_true (h2 e he)]
theorem lnM_at {s:LI} {l:LT} {room key:Int} {i:Nat} (v:VMem s l room) (hi:i < l.length) (hk:(l.getD i ((0:Int),(0:Int),false)).1=key):lnM s l key=l.getD i ((0:Int),(0:Int),false):=by
 rw [← hk]; exact v.look (getL_mem hi)
theorem VMem.ll {s:LI} {l:LT} {room:Int} (v:VMem s l room):s.length≤1000000000∧l.length≤1000000000:=by have:=v.len; omega
theorem tdiv_lit {a:Int} (n:Int) (hn:0 < n):Int.tdiv a n=if 0≤a then a / n else -((-a) / n):=by
 split
 ·rename_i h; exact Int.tdiv_eq_ediv_of_nonneg h
 ·rename_i h
  have:Int.tdiv (-(-a)) n=-(Int.tdiv (-a) n):=Int.neg_tdiv (-a) n
  rw [Int.neg_neg] at this
  rw [this,Int.tdiv_eq_ediv_of_nonneg (by omega)]
def VRat (hits uses:Int):Prop:=(1≤uses∧uses≤10000)∧0≤hits∧hits≤uses
def ratM (hits uses:Int):Int:=Int.tdiv (1000*hits) uses
theorem VRat.ediv {h u:Int} (v:VRat h u):ratM h u=1000*h / u:=Int.tdiv_eq_ediv_of_nonneg (by have:=v.2; omega)
theorem VRat.two {h u:Int} (v:VRat h u):u*ratM h u≤1000*h∧1000*h < u*ratM h u+u:=by
 rw [v.ediv]
 have h1:=v.1
 exact ⟨Int.mul_ediv_self_le (by omega),Int.lt_mul_ediv_self_add (by omega)⟩
def VClimb (at_ step ratio:Int):Prop:=(0≤at_∧at_≤100)∧(-16≤step∧step≤16)∧step≠0∧0≤ratio∧ratio≤1000
def turnM (step:Int):Int:=if Int.tdiv (0 - step) 2=0 then (if 0 < step then -1 else 1) else Int.tdiv (0 - step) 2
theorem turn_def {step:Int} (h:step≠0):turnM step=if 0 < step then (if step=1 then -1 else -(step / 2)) else (if step=-1 then 1 else (0 - step) / 2):=by
 unfold turnM; rw [tdiv_lit 2 (by omega)]
 split <;> split <;> split <;> omega
def stepM (step r ratio:Int):Int:=if ratio < r then turnM step else step
def climbAt (at_ step:Int):Int:=if at_+step < 0 then 0 else if 100 < at_+step then 100 else at_+step
theorem climbAt_range (at_ step:Int):0≤climbAt at_ step∧climbAt at_ step≤100:=by
 unfold climbAt; split
 ·omega
 ·split <;> omega
theorem turn_range {step:Int} (h:step≠0) (h1:-16≤step∧step≤16):turnM step≠0∧-16≤turnM step∧turnM step≤16:=by
 rw [turn_def h]; split <;> split <;> omega
theorem VClimb.next {at_ step r ratio:Int} (v:VClimb at_ step r) (h:0≤ratio∧ratio≤1000):VClimb (climbAt at_ (stepM step r ratio)) (stepM step r ratio) ratio:=by
 have h1:=climbAt_range at_ (stepM step r ratio)
 have h2:=turn_range v.2.2.1 v.2.1
 refine ⟨h1,?_⟩
 unfold stepM; split
 ·exact ⟨h2.2,h2.1,h⟩
 ·exact ⟨v.2.1,v.2.2.1,h⟩
def splitF (f:Nat→Int):Nat→Int×Int
 | 0=>(1,-1)
 | n+1=>if (splitF f n).2 < f (n+1) then (((n+1:Nat):Int),f (n+1)) else splitF f n
theorem splitF_spec {f:Nat→Int}:∀ {n:Nat},(∀ i,1≤i→i≤n→0≤f i)→(n=0∧splitF f n=(1,-1))∨
  ∃ j:Nat,1≤j∧j≤n∧splitF f n=((j:Int),f j)∧(∀ i,1≤i→i≤n→f i≤f j)∧∀ i,1≤i→i < j→f i < f j
 | 0,_=>.inl ⟨rfl,rfl⟩
 | n+1,h=>by
  have hn:=h (n+1) (by omega) (by omega)
  rcases splitF_spec (n:=n) (fun i h1 h2=>h i h1 (by omega)) with ⟨rfl,e⟩ | ⟨j,h1,h2,e,h4,h5⟩
  ·refine .inr ⟨1,by omega,by omega,?_,fun i h1 h2=>?_,fun i h1 h2=>by omega⟩
   ·rw [splitF,e,if_pos (by show (-1:Int) < _; omega)]
   ·rw [show i=1 by omega]; exact Int.le_refl _
  ·by_cases c:f j < f (n+1)
   ·refine .inr ⟨n+1,by omega,by omega,by rw [splitF,e,if_pos c],fun i g1 g2=>?_,fun i g1 g2=>?_⟩
    ·rcases Nat.lt_or_ge i (n+1) with g | g
     ·have:=h4 i g1 (by omega); omega
     ·rw [show i=n+1 by omega]; exact Int.le_refl _
    ·have:=h4 i g1 (by omega); omega
   ·refine .inr ⟨j,h1,by omega,by rw [splitF,e,if_neg c],fun i g1 g2=>?_,h5⟩
    rcases Nat.lt_or_ge i (n+1) with g | g
    ·exact h4 i g1 (by omega)
    ·rw [show i=n+1 by omega]; omega
def hitsS (t:LI) (room:Int) (i:Nat):Int:=(runS (i:Int) (room - i) t [] [] 0).2.2
def VSplit (t:LI) (room:Int):Prop:=VTrace t∧2≤room∧room≤8
def splitM (t:LI) (room:Int):Int:=(splitF (hitsS t room) (room - 1).toNat).1
theorem VSplit.pos {t:LI} {room:Int} (v:VSplit t room) {i:Nat} (h1:1≤i) (h2:(i:Int) < room):0≤hitsS t room i∧hitsS t room i≤(bestM room.toNat t []:Int):=by
 have hr:=v.2
 have:=runS_facts v.1 (trial:=(i:Int)) (safe:=room - i) ⟨by omega,by omega⟩ ⟨by omega,by omega⟩
 rw [show (i:Int)+(room - i)=room by omega] at this
 exact ⟨this.1,this.2.1⟩
theorem VSplit.spec {t:LI} {room:Int} (v:VSplit t room):∃ j:Nat,1≤j∧(j:Int) < room∧splitM t room=j∧(∀ i:Nat,1≤i→(i:Int) < room→hitsS t room i≤hitsS t room j)∧∀ i:Nat,1≤i→i < j→hitsS t room i < hitsS t room j:=by
 have hr:=v.2
 rcases splitF_spec (f:=hitsS t room) (n:=(room - 1).toNat) (fun i h1 h2=>(v.pos h1 (by omega)).1) with ⟨h,_⟩ | ⟨j,h1,h2,e,h4,h5⟩
 ·omega
 ·exact ⟨j,h1,by omega,by unfold splitM; rw [e],fun i g1 g2=>h4 i g1 (by omega),h5⟩
def mixM:LI→LI→LI
 | [],b=>b
 | a,[]=>a
 | x :: a,y :: b=>x :: y :: mixM a b
theorem mixM_nil_r:∀ a:LI,mixM a []=a
 | []=>rfl
 | _ :: _=>rfl
theorem mixM_nil_l (b:LI):mixM [] b=b:=by unfold mixM; rfl
theorem mixM_cons (x y:Int) (a b:LI):mixM (x :: a) (y :: b)=x :: y :: mixM a b:=by rw [mixM]
theorem mixM_len:∀ a b:LI,(mixM a b).length=a.length+b.length
 | [],b=>by rw [mixM_nil_l]; simp
 | x :: a,[]=>by rw [mixM_nil_r]; simp
 | x :: a,y :: b=>by rw [mixM_cons,List.length_cons,List.length_cons,mixM_len a b,List.length_cons,List.length_cons]; omega
theorem mixM_mem:∀ {a b:LI} {x:Int},x∈mixM a b→x∈a∨x∈b
 | [],b,x,h=>by rw [mixM_nil_l] at h; exact .inr h
 | z :: a,[],x,h=>by rw [mixM_nil_r] at h; exact .inl h
 | z :: a,y :: b,x,h=>by
  rw [mixM_cons] at h
  rcases List.mem_cons.1 h with rfl | h
  ·exact .inl List.mem_cons_self
  ·rcases List.mem_cons.1 h with rfl | h
   ·exact .inr List.mem_cons_self
   ·rcases mixM_mem h with h | h
    ·exact .inl (List.mem_cons_of_mem _ h)
    ·exact .inr (List.mem_cons_of_mem _ h)
def VMix (a b:LI):Prop:=(VTrace a∧VTrace b)∧a.length+b.length≤24
theorem VMix.valid {a b:LI} (v:VMix a b):VTrace (mixM a b):=
 ⟨by rw [mixM_len]; exact v.2,fun x hx=>(mixM_mem hx).elim (v.1.1.2 x) (v.1.2.2 x)⟩
def decF:Nat→Int→LI
 | 0,_=>[]
 | f+1,n=>if n < 10 then [48+n] else decF f (n / 10)++[48+n % 10]
def decB (n:Int):LI:=if n < 0 then 45 :: decF 5 (0 - n) else decF 5 n
theorem decF_more:∀ {f:Nat} {n:Int},1≤f→n < (10 ^ f:Nat)→decF (f+1) n=decF f n
 | 0,n,h,_=>by omega
 | 1,n,_,h=>by
  have h:n < 10:=h
  rw [decF,if_pos h,decF,if_pos h]
 | f+2,n,_,h=>by
  rw [decF]
  conv=>rhs; rw [decF]
  split
  ·rfl
  ·rw [decF_more (f:=f+1) (by omega)]
   have:(10 ^ (f+2):Nat)=10*10 ^ (f+1):=by rw [Nat.pow_succ,Nat.mul_comm]
   omega
theorem decB_small {n:Int} (h0:0≤n) (h:n < 10):decB n=[48+n]:=by
 rw [decB,if_neg (by omega),decF,if_pos h]
theorem decB_neg {n:Int} (h:n < 0):decB n=45 :: decB (0 - n):=by
 rw [decB,if_pos h]
 conv=>rhs; rw [decB,if_neg (by omega)]
theorem decB_big {n:Int} (h0:10≤n) (h:n≤9999):decB n=decB (n / 10)++[48+n % 10]:=by
 rw [decB,if_neg (by omega),decF,if_neg (by omega),decB,if_neg (by omega),decF_more (f:=4) (by omega) (by show n / 10 < (10000:Nat); omega)]
theorem decF_len:∀ (f:Nat) (n:Int),(decF f n).length≤f
 | 0,_=>by simp [decF]
 | f+1,n=>by
  have:=decF_len f (n / 10)
  rw [decF]; split
  ·simp
  ·rw [List.length_append]; simp; omega
theorem decB_len (n:Int):(decB n).length≤6:=by
 rw [decB]; split
 ·rw [List.length_cons]; have:=decF_len 5 (0 - n); omega
 ·have:=decF_len 5 n; omega
theorem str_append (a b:LI):strOfNums a++strOfNums b=strOfNums (a++b):=by
 have:(strOfNums a++strOfNums b).data=(strOfNums (a++b)).data:=by
  simp [strOfNums]
 exact ByteArray.ext this
theorem str_size (a:LI):ByteArray.size (strOfNums a)=a.length:=strOfNums_size a
def BS (a:LI):Prop:=∀ x∈a,0≤x∧x≤255
theorem u8_nat {x:Int} (h:0≤x∧x≤255):((UInt8.ofNat x.toNat).toNat:Int)=x:=by
 have:(UInt8.ofNat x.toNat).toNat=x.toNat % 256:=by simp
 omega
theorem str_data (a:LI):(strOfNums a).data=(a.map fun n=>UInt8.ofNat n.toNat).toArray:=rfl
theorem str_index {a:LI} (h:BS a) (i:Nat):((Array.getD (strOfNums a).data i 0).toNat:Int)=a.getD i 0:=by
 rw [str_data,List.getD_eq_getElem?_getD]
 rcases Nat.lt_or_ge i a.length with c | c
 ·have:Array.getD (a.map fun n=>UInt8.ofNat n.toNat).toArray i 0=UInt8.ofNat (a[i]).toNat:=by
   simp [Array.getD,c]
  rw [this,u8_nat (h _ (List.getElem_mem c)),List.getElem?_eq_getElem c]; rfl
 ·have:Array.getD (a.map fun n=>UInt8.ofNat n.toNat).toArray i 0=0:=by
   simp [Array.getD,Nat.not_lt.2 c]
  rw [this,List.getElem?_eq_none c]; rfl
theorem u8_inj {x y:Int} (hx:0≤x∧x≤255) (hy:0≤y∧y≤255) (h:UInt8.ofNat x.toNat=UInt8.ofNat y.toNat):x=y:=by
 rw [← u8_nat hx,← u8_nat hy,h]
theorem str_inj:∀ {a b:LI},BS a→BS b→(a.map fun n=>UInt8.ofNat n.toNat)=(b.map fun n=>UInt8.ofNat n.toNat)→a=b
 | [],[],_,_,_=>rfl
 | [],_ :: _,_,_,h=>by cases h
 | _ :: _,[],_,_,h=>by cases h
 | x :: a,y :: b,ha,hb,h=>by
  rw [List.map_cons,List.map_cons] at h
  injection h with h1 h2
  rw [u8_inj (ha x List.mem_cons_self) (hb y List.mem_cons_self) h1,str_inj (fun z hz=>ha z (List.mem_cons_of_mem _ hz)) (fun z hz=>hb z (List.mem_cons_of_mem _ hz)) h2]
theorem toList_loop (s:ByteArray):∀ (m i:Nat) (r:List UInt8),i+m=s.size→ByteArray.toList.loop s i r=r.reverse++s.data.toList.drop i:=by
 intro m
 induction m with
 | zero=>
  intro i r h
  rw [ByteArray.toList.loop,if_neg (by omega)]
  rw [List.drop_eq_nil_of_le (by rw [Array.length_toList]; show s.size≤i; omega),List.append_nil]
 | succ m ih=>
  intro i r h
  have hi:i < s.data.toList.length:=by rw [Array.length_toList]; show i < s.size; omega
  rw [ByteArray.toList.loop,if_pos (by omega),ih (i+1) _ (by omega),List.reverse_cons,List.append_assoc,List.drop_eq_getElem_cons hi]
  congr 2
  have hi2:i < s.data.size:=by simpa using hi
  have e:s.get! i=s.data.toList[i]:=by
   show s.data[i]! = s.data.toList[i]
   rw [getElem!_pos s.data i hi2]; simp
  rw [e]; rfl
theorem toList_data (s:ByteArray):s.toList=s.data.toList:=by
 rw [ByteArray.toList,toList_loop s s.size 0 [] (by omega)]; simp
theorem str_eq {a b:LI} (ha:BS a) (hb:BS b):(ByteArray.toList (strOfNums a)==ByteArray.toList (strOfNums b))=decide (a=b):=by
 rw [toList_data,toList_data,str_data,str_data]
 by_cases h:a=b
 ·subst h; simp
 ·rw [decide_eq_false h,beq_eq_false_iff_ne]
  exact fun e=>h (str_inj ha hb (by simpa using e))
theorem str_extract (a:LI) (i j:Nat):ByteArray.extract (strOfNums a) i j=strOfNums ((a.take j).drop i):=by
 apply ByteArray.ext
 rw [ByteArray.data_extract,str_data,str_data]
 apply Array.ext'
 rw [Array.toList_extract]
 simp [List.extract,List.drop_take,List.map_take,List.map_drop]
theorem BS.take {a:LI} (h:BS a) (i:Nat):BS (a.take i):=fun x hx=>h x (List.mem_of_mem_take hx)
theorem BS.drop {a:LI} (h:BS a) (i:Nat):BS (a.drop i):=fun x hx=>h x (List.mem_of_mem_drop hx)
theorem BS.append {a b:LI} (h:BS a) (k:BS b):BS (a++b):=fun x hx=>(List.mem_append.1 hx).elim (h x) (k x)
theorem BS.one {x:Int} (h:0≤x∧x≤255):BS [x]:=fun y hy=>by rw [List.mem_singleton.1 hy]; exact h
theorem str_of (s:ByteArray):∃ a,BS a∧s=strOfNums a:=by
 refine ⟨s.data.toList.map fun u=>(u.toNat:Int),fun x hx=>?_,?_⟩
 ·obtain ⟨u,_,rfl⟩:=List.mem_map.1 hx
  have:=u.toNat_lt; omega
 ·apply ByteArray.ext
  rw [str_data]
  apply Array.ext'
  simp [List.map_map,Function.comp_def]
theorem decF_digits:∀ {f:Nat} {n x:Int},0≤n→x∈decF f n→48≤x∧x≤57
 | 0,_,_,_,h=>by simp [decF] at h
 | f+1,n,x,h0,h=>by
  rw [decF] at h
  split at h
  ·rw [List.mem_singleton.1 h]; omega
  ·rcases List.mem_append.1 h with h | h
   ·exact decF_digits (by omega) h
   ·rw [List.mem_singleton.1 h]; omega
theorem decB_bytes {n x:Int} (h:x∈decB n):(48≤x∧x≤57)∨x=45:=by
 rw [decB] at h; split at h
 ·rcases List.mem_cons.1 h with h | h
  ·exact .inr h
  ·exact .inl (decF_digits (by omega) h)
 ·exact .inl (decF_digits (by omega) h)
theorem decB_BS (n:Int):BS (decB n):=fun x hx=>by have:=decB_bytes hx; omega
theorem decF_ne:∀ {f:Nat} {n:Int},1≤f→decF f n≠[]
 | 0,_,h=>by omega
 | f+1,n,_=>by rw [decF]; split <;> simp
theorem decB_ne (n:Int):decB n≠[]:=by
 rw [decB]; split
 ·simp
 ·exact decF_ne (by omega)
def valD (n:Int):LI→Int
 | []=>n
 | x :: r=>valD (10*n+x - 48) r
theorem valD_snoc:∀ (a:LI) (n x:Int),valD n (a++[x])=10*valD n a+x - 48
 | [],n,x=>rfl
 | y :: a,n,x=>valD_snoc a _ x
theorem valD_dec:∀ {f:Nat} {n:Int},0≤n→n < (10 ^ f:Nat)→1≤f→valD 0 (decF f n)=n
 | 0,n,_,_,h=>by omega
 | f+1,n,h0,h,_=>by
  rw [decF]; split
  ·show 10*0+(48+n) - 48=n; omega
  ·rw [valD_snoc]
   have e:(10 ^ (f+1):Nat)=10*10 ^ f:=by rw [Nat.pow_succ,Nat.mul_comm]
   by_cases hf:f=0
   ·subst hf; have:n < 10:=h; omega
   ·rw [valD_dec (f:=f) (by omega) (by omega) (by omega)]; omega
def runN:LI→Nat
 | []=>0
 | [_]=>1
 | x :: y :: r=>if x=y then runN (y :: r)+1 else 1
def grp:LI→List (Int×Nat)
 | []=>[]
 | x :: r=>match grp r with
  | []=>[(x,1)]
  | (y,n) :: g=>if x=y then (y,n+1) :: g else (x,1) :: (y,n) :: g
theorem runN_pos (x:Int):∀ r:LI,1≤runN (x :: r)∧runN (x :: r)≤r.length+1
 | []=>⟨Nat.le_refl _,Nat.le_refl _⟩
 | y :: r=>by
  have:=runN_pos y r
  rw [runN]; split <;> simp only [List.length_cons] <;> omega
theorem runN_same (x:Int):∀ (r:LI) (q:Nat),q < runN (x :: r)→(x :: r).getD q 0=x
 | [],q,h=>by
  have:q=0:=by simp [runN] at h; exact h
  subst this; rfl
 | y :: r,0,_=>rfl
 | y :: r,q+1,h=>by
  rw [runN] at h
  split at h
  ·rename_i e; subst e
   have:=runN_same x r q (by omega)
   simpa [List.getD] using this
  ·omega
theorem runN_stop (x:Int):∀ (r:LI),runN (x :: r) < r.length+1→(x :: r).getD (runN (x :: r)) 0≠x
 | [],h=>by simp [runN] at h
 | y :: r,h=>by
  rw [runN] at h ⊢
  split
  ·rename_i e; subst e
   rw [if_pos rfl] at h
   have:=runN_stop x r (by simp at h; omega)
   simpa [List.getD] using this
  ·rename_i e
   show y≠x
   exact fun c=>e c.symm
theorem grp_run (x:Int):∀ r:LI,grp (x :: r)=(x,runN (x :: r)) :: grp ((x :: r).drop (runN (x :: r)))
 | []=>rfl
 | y :: r=>by
  have h:=grp_run y r
  rw [grp,h,runN]
  dsimp only
  split
  ·rename_i e; subst e; rfl
  ·rename_i e; rw [List.drop_succ_cons,List.drop_zero,h]
def wordM (g:Int×Nat):LI:=decB g.1++(if 1 < g.2 then 42 :: decB (g.2:Int) else [])
def joinW:List (Int×Nat)→LI
 | []=>[]
 | g :: gs=>wordM g++(if gs=[] then [] else 32 :: joinW gs)
def fmtM (t:LI):LI:=joinW (grp t)
theorem grp_nil {t:LI}:grp t=[]↔t=[]:=by
 cases t with
 | nil=>simp [grp]
 | cons x r=>rw [grp_run]; simp
theorem fmtM_cons (x:Int) (r:LI):fmtM (x :: r)=wordM (x,runN (x :: r))++(if (x :: r).drop (runN (x :: r))=[] then [] else 32 :: fmtM ((x :: r).drop (runN (x :: r)))):=by
 unfold fmtM
 rw [grp_run,joinW]
 by_cases h:(x :: r).drop (runN (x :: r))=[]
 ·rw [if_pos h,if_pos (grp_nil.2 h)]
 ·rw [if_neg h,if_neg (fun c=>h (grp_nil.1 c))]
theorem wordM_BS (g:Int×Nat):BS (wordM g):=by
 unfold wordM
 refine (decB_BS _).append ?_
 split
 ·exact (BS.one (x:=42) (by omega)).append (decB_BS _)
 ·intro x hx; simp at hx
theorem joinW_BS:∀ gs:List (Int×Nat),BS (joinW gs)
 | []=>fun x hx=>by simp [joinW] at hx
 | g :: gs=>by
  rw [joinW]
  refine (wordM_BS g).append ?_
  split
  ·intro x hx; simp at hx
  ·exact (BS.one (x:=32) (by omega)).append (joinW_BS gs)
theorem fmtM_BS (t:LI):BS (fmtM t):=joinW_BS _
theorem wordM_len (g:Int×Nat):(wordM g).length≤13:=by
 unfold wordM
 have h1:=decB_len g.1
 have h2:=decB_len (g.2:Int)
 rw [List.length_append]; split
 ·rw [List.length_cons]; omega
 ·simp; omega
theorem joinW_len:∀ gs:List (Int×Nat),(joinW gs).length≤14*gs.length
 | []=>by simp [joinW]
 | g :: gs=>by
  have h1:=wordM_len g
  have h2:=joinW_len gs
  rw [joinW,List.length_append,List.length_cons]; split
  ·simp; omega
  ·rw [List.length_cons]; omega
theorem grp_len:∀ t:LI,(grp t).length≤t.length
 | []=>by simp [grp]
 | x :: r=>by
  have:=grp_len r
  rw [grp]; split
  ·simp
  ·rename_i y n g h
   rw [h] at this
   split <;> simp only [List.length_cons] at*<;> omega
theorem fmtM_len (t:LI):(fmtM t).length≤14*t.length:=by
 have h1:=joinW_len (grp t)
 have h2:=grp_len t
 unfold fmtM; omega
def splitB (c:Int):LI→List (LI)
 | []=>[[]]
 | x :: r=>if x=c then [] :: splitB c r else match splitB c r with
  | []=>[[x]]
  | w :: ws=>(x :: w) :: ws
theorem splitB_none {c:Int}:∀ {a:LI},(∀ x∈a,x≠c)→splitB c a=[a]
 | [],_=>rfl
 | x :: a,h=>by rw [splitB,if_neg (h x List.mem_cons_self),splitB_none fun y hy=>h y (List.mem_cons_of_mem _ hy)]
theorem splitB_app {c:Int} {b:LI}:∀ {a:LI},(∀ x∈a,x≠c)→splitB c (a++c :: b)=a :: splitB c b
 | [],_=>by rw [List.nil_append,splitB,if_pos rfl]
 | x :: a,h=>by rw [List.cons_append,splitB,if_neg (h x List.mem_cons_self),splitB_app fun y hy=>h y (List.mem_cons_of_mem _ hy)]
theorem splitB_ne (c:Int):∀ a:LI,splitB c a≠[]
 | []=>by simp [splitB]
 | x :: a=>by
  rw [splitB]; split
  ·simp
  ·split <;> simp
theorem splitB_BS {c:Int}:∀ {a w:LI},BS a→w∈splitB c a→BS w∧w.length≤a.length
 | [],w,_,h=>by
  rw [splitB,List.mem_singleton] at h; subst h
  exact ⟨fun x hx=>by simp at hx,Nat.le_refl _⟩
 | x :: a,w,hb,h=>by
  have hr:BS a:=fun y hy=>hb y (List.mem_cons_of_mem _ hy)
  rw [splitB] at h
  split at h
  ·rcases List.mem_cons.1 h with rfl | h
   ·exact ⟨fun x hx=>by simp at hx,by simp⟩
   ·have:=splitB_BS hr h
    exact ⟨this.1,by rw [List.length_cons]; omega⟩
  ·split at h
   ·rw [List.mem_singleton] at h; subst h
    exact ⟨BS.one (hb x List.mem_cons_self),by simp⟩
   ·rename_i u us e
    rcases List.mem_cons.1 h with rfl | h
    ·have:=splitB_BS hr (by rw [e]; exact List.mem_cons_self)
     exact ⟨(BS.one (hb x List.mem_cons_self)).append this.1,by rw [List.length_cons,List.length_cons]; omega⟩
    ·have:=splitB_BS hr (by rw [e]; exact List.mem_cons_of_mem _ h)
     exact ⟨this.1,by rw [List.length_cons]; omega⟩
def valS (a:LI):Int:=if a.getD 0 0=45 then valD 0 (a.drop 1) else valD 0 a
theorem valS_snoc {a:LI} {x:Int} (h:x≠45):valS (a++[x])=10*valS a+x - 48:=by
 cases a with
 | nil=>unfold valS; rw [if_neg (by simpa using h)]; simp [valD]
 | cons y a=>
  unfold valS
  rw [show ((y :: a)++[x]).getD 0 0=y from rfl,show (y :: a).getD 0 0=y from rfl]
  split
  ·rw [show ((y :: a)++[x]).drop 1=a++[x] from rfl,show (y :: a).drop 1=a from rfl,valD_snoc]
  ·rw [valD_snoc]
theorem decF_first {f:Nat} {n:Int} (hf:1≤f) (h:0≤n):(decF f n).getD 0 0≠45:=by
 cases e:decF f n with
 | nil=>exact absurd e (decF_ne hf)
 | cons x r=>
  have:=decF_digits (f:=f) (x:=x) h (by rw [e]; exact List.mem_cons_self)
  show x≠45
  omega
theorem valS_dec {m:Int} (h:-9999≤m∧m≤9999):((decB m).getD 0 0=45↔m < 0)∧valS (decB m)=if m < 0 then 0 - m else m:=by
 unfold valS decB
 by_cases c:m < 0
 ·rw [if_pos c,if_pos c]
  refine ⟨⟨fun _=>c,fun _=>rfl⟩,?_⟩
  rw [if_pos (show (45 :: decF 5 (0 - m)).getD 0 0=45 from rfl)]
  exact valD_dec (by omega) (by show 0 - m < (100000:Nat); omega) (by omega)
 ·rw [if_neg c,if_neg c]
  have h1:=decF_first (f:=5) (n:=m) (by omega) (by omega)
  refine ⟨⟨fun e=>absurd e h1,fun e=>absurd e c⟩,?_⟩
  rw [if_neg h1]
  exact valD_dec (by omega) (by show m < (100000:Nat); omega) (by omega)
theorem decB_sign {m x:Int} {i:Nat} (h:(decB m)[i]?=some x):(48≤x∧x≤57)∨(i=0∧x=45):=by
 unfold decB at h
 split at h
 ·cases i with
  | zero=>simp at h; exact .inr ⟨rfl,h.symm⟩
  | succ i=>
   have:=List.mem_of_getElem? (show (decF 5 (0 - m))[i]?=some x by simpa using h)
   exact .inl (decF_digits (by omega) this)
 ·exact .inl (decF_digits (by omega) (List.mem_of_getElem? h))
def NumB (a:LI) (n:Int):Prop:=(-9999≤n∧n≤9999)∧decB n=a∧a.length≤4
theorem NumB.one {a:LI} {n m:Int} (h:NumB a n) (h':NumB a m):n=m:=by
 have h1:=valS_dec h.1
 have h2:=valS_dec h'.1
 rw [h.2.1] at h1
 rw [h'.2.1] at h2
 have e1:=h1.1.symm.trans h2.1
 have e2:=h1.2.symm.trans h2.2
 by_cases c:n < 0
 ·rw [if_pos c,if_pos (e1.1 c)] at e2; omega
 ·rw [if_neg c,if_neg (fun d=>c (e1.2 d))] at e2; exact e2
theorem br_nd' {a b:Int} {A B:Prop} (h:a≠b) (g:B):br (a==b) A B:=br_ne h g
theorem decB_short {n:Int} (h:0≤n∧n≤99):(decB n).length≤2:=by
 by_cases c:n < 10
 ·rw [decB_small h.1 c]; simp
 ·rw [decB_big (by omega) (by omega),decB_small (by omega) (by omega)]; simp
theorem NumB.of {n:Int} (h:0≤n∧n≤99):NumB (decB n) n:=⟨⟨by omega,by omega⟩,rfl,by have:=decB_short h; omega⟩
def joinB (s:LI):List (LI)→LI
 | []=>[]
 | [x]=>x
 | x :: y :: r=>x++s++joinB s (y :: r)
def findB (c:Int):LI→Int
 | []=>-1
 | x :: r=>if x=c then 0 else if findB c r=-1 then -1 else findB c r+1
theorem join_words:∀ (t:LI),joinB [32] ((grp t).map wordM)=fmtM t:=fun t=>by
 unfold fmtM
 induction grp t with
 | nil=>rfl
 | cons g gs ih=>
  cases gs with
  | nil=>rw [joinW,if_pos rfl,List.append_nil]; rfl
  | cons g2 gs=>
   rw [joinW,if_neg (by simp),← ih,List.map_cons,List.map_cons,joinB,List.append_assoc]; rfl
theorem findB_cases (c:Int):∀ a:LI,(findB c a=-1∧∀ x∈a,x≠c)∨∃ u v,(∀ x∈u,x≠c)∧a=u++c :: v∧findB c a=(u.length:Int)
 | []=>.inl ⟨rfl,by simp⟩
 | x :: r=>by
  rw [findB]
  by_cases h:x=c
  ·rw [if_pos h]; subst h
   exact .inr ⟨[],r,by simp,rfl,rfl⟩
  ·rw [if_neg h]
   rcases findB_cases c r with ⟨e,hn⟩ | ⟨u,v,hn,rfl,e⟩
   ·rw [if_pos e]
    exact .inl ⟨rfl,fun y hy=>(List.mem_cons.1 hy).elim (fun q=>by rw [q]; exact h) (hn y)⟩
   ·rw [if_neg (by omega),e]
    exact .inr ⟨x :: u,v,fun y hy=>(List.mem_cons.1 hy).elim (fun q=>by rw [q]; exact h) (hn y),rfl,by simp⟩
theorem splitB_single {c:Int}:∀ {a w:LI},splitB c a=[w]→a=w
 | [],w,h=>by injection h
 | x :: a,w,h=>by
  rw [splitB] at h
  split at h
  ·injection h with _ h; exact absurd h (splitB_ne c a)
  ·split at h
   ·rename_i e; exact absurd e (splitB_ne c a)
   ·rename_i u us e
    injection h with h1 h2
    subst h2
    rw [← h1,splitB_single e]
def sgnV (a:LI):Int:=if a.getD 0 0=45 then 0 - valS a else valS a
def parseB (a:LI):Option Int:=if decB (sgnV a)=a∧a.length≤4∧-9999≤sgnV a∧sgnV a≤9999 then some (sgnV a) else none
theorem parseB_iff {a:LI} {n:Int}:parseB a=some n↔NumB a n:=by
 unfold parseB
 constructor
 ·intro h
  by_cases c:decB (sgnV a)=a∧a.length≤4∧-9999≤sgnV a∧sgnV a≤9999
  ·rw [if_pos c] at h
   injection h with h
   rw [h] at c
   exact ⟨c.2.2,c.1,c.2.1⟩
  ·rw [if_neg c] at h; cases h
 ·intro h
  have h1:=valS_dec h.1
  rw [h.2.1] at h1
  have e:sgnV a=n:=by
   unfold sgnV
   by_cases c:n < 0
   ·rw [if_pos (h1.1.2 c),h1.2,if_pos c]; omega
   ·rw [if_neg fun d=>c (h1.1.1 d),h1.2,if_neg c]
  rw [e,if_pos ⟨h.2.1,h.2.2,h.1⟩]
theorem bs_no:BS [110,111]:=by show ∀ x∈[110,111],(0:Int)≤x∧x≤255; decide
theorem bs_ok:BS [111,107]:=by show ∀ x∈[111,107],(0:Int)≤x∧x≤255; decide
theorem bs_what:BS [119,104,97,116]:=by show ∀ x∈[119,104,97,116],(0:Int)≤x∧x≤255; decide
def numM (a:LI):Int:=match parseB a with
 | some n=>n
 | none=>-1
abbrev SesT:=LI×LT×LI
def noteM (seen:LI) (key:Int):LI:=(seen++[key]).drop (seen.length+1 - 24)
def hitsM (p seen:LI) (room:Int):Int:=
 if 1≤room∧room≤8 then
  if p=[114,101,99,101,110,116] then (runR room seen [] 0).2
  else if p=[102,105,114,115,116] then (runF room seen [] 0).2
  else if p=[99,108,111,99,107] then (runC room seen [] [] 0 0).2.2.2
  else if p=[111,102,116,101,110] then (runO room seen [] 0 0).2
  else if p=[97,100,97,112,116,105,118,101] then (runL room seen ⟨0,[],[],[],[]⟩ 0).2
  else if p=[98,101,115,116] then (bestM room.toNat seen []:Int)
  else -1
 else -1
def hitsOut (n:Int):LI:=if n < 0 then [110,111] else decB n
def getM (t:SesT) (key:Int):SesT×LI:=
 if 0≤key∧key≤31 then ((accS t.1 t.2.1 3 key,readM t.1 t.2.1 3 key,noteM t.2.2 key),decB (valM t.1 t.2.1 key)) else (t,[110,111])
def setM (t:SesT) (key:Int):Option Int→SesT×LI
 | none=>(t,[110,111])
 | some n=>if (0≤key∧key≤31)∧-1000≤n∧n≤1000 then ((accS t.1 t.2.1 3 key,wrtM t.2.1 3 key n,noteM t.2.2 key),[111,107]) else (t,[110,111])
def stepL (t:SesT) (a:LI):SesT×LI:=
 if (splitB 32 a).getD 0 []=[103,101,116]∧(splitB 32 a).length=2 then getM t (numM ((splitB 32 a).getD 1 []))
 else if (splitB 32 a).getD 0 []=[115,101,116]∧(splitB 32 a).length=3 then setM t (numM ((splitB 32 a).getD 1 [])) (parseB ((splitB 32 a).getD 2 []))
 else if (splitB 32 a).getD 0 []=[104,105,116,115]∧(splitB 32 a).length=3 then (t,hitsOut (hitsM ((splitB 32 a).getD 1 []) t.2.2 (numM ((splitB 32 a).getD 2 []))))
 else if a=[116,114,97,99,101] then (t,fmtM t.2.2)
 else if a=[100,105,114,116,121] then (t,fmtM (dirtyL t.2.1))
 else if a=[102,108,117,115,104] then ((flushS t.2.1 t.1,flushL t.2.1,t.2.2),[111,107])
 else (t,[119,104,97,116])
def sesF:List (LI)→SesT→LI
 | [],_=>[]
 | a :: r,t=>(stepL t a).2++10 :: sesF r (stepL t a).1
def ses0:SesT:=(List.replicate 32 0,[],[])
def sesM (ls:List (LI)):LI:=sesF (ls.take 20) ses0
def VSes (t:SesT):Prop:=VMem t.1 t.2.1 3∧VTrace t.2.2
theorem ses0_ok:VSes ses0:=
 ⟨⟨⟨by simp [ses0],fun x hx=>by rw [(List.mem_replicate.1 hx).2]; omega⟩,⟨⟨by simp [ses0],by simp [ses0]⟩,by omega,by simp [ses0]⟩,by intro e he; simp [ses0] at he⟩,by simp [ses0],by simp [ses0]⟩
theorem noteM_ok {seen:LI} {key:Int} (v:VTrace seen) (h:0≤key∧key≤31):VTrace (noteM seen key):=by
 refine ⟨by unfold noteM; rw [List.length_drop,List.length_append,List.length_singleton]; omega,fun x hx=>?_⟩
 rcases List.mem_append.1 (List.mem_of_mem_drop hx) with c | c
 ·exact v.2 x c
 ·rw [List.mem_singleton.1 c]; exact h
theorem hitsM_small {p seen:LI} {room:Int} (v:VTrace seen):-1≤hitsM p seen room∧hitsM p seen room≤24:=by
 unfold hitsM
 split
 ·rename_i hr
  have v1:=v.1
  have b:=best_facts v hr
  have h1:=runR_facts v hr
  have h2:=runF_facts v hr
  have h3:=runC_facts v hr
  have h4:=runO_facts v hr
  have h5:=runL_facts v hr
  have k1:=h1.pos; have k2:=h1.best; have k3:=h2.pos; have k4:=h2.best; have k5:=h3.pos; have k6:=h3.best; have k7:=h4.pos; have k8:=h4.best; have k9:=h5.pos; have k10:=h5.best
  split
  ·omega
  ·split
   ·omega
   ·split
    ·omega
    ·split
     ·omega
     ·split
      ·omega
      ·split <;> omega
 ·omega
theorem step_ok {t:SesT} (v:VSes t) (a:LI):VSes (stepL t a).1∧BS (stepL t a).2∧(stepL t a).2.length≤340:=by
 have no:VSes t∧BS [110,111]∧([110,111]:LI).length≤340:=⟨v,bs_no,by decide⟩
 have hv:=v.1.len
 have hs:=v.2.1
 unfold stepL
 split
 ·unfold getM
  split
  ·rename_i k; exact ⟨⟨v.1.read k,noteM_ok v.2 k⟩,decB_BS _,by have:=decB_len (valM t.1 t.2.1 (numM ((splitB 32 a).getD 1 []))); dsimp only; omega⟩
  ·exact no
 ·split
  ·cases parseB ((splitB 32 a).getD 2 []) with
   | none=>exact no
   | some n=>
    unfold setM
    dsimp only
    split
    ·rename_i k; exact ⟨⟨v.1.write k.1 k.2,noteM_ok v.2 k.1⟩,bs_ok,by simp⟩
    ·exact no
  ·split
   ·unfold hitsOut
    split
    ·exact no
    ·exact ⟨v,decB_BS _,by have:=decB_len (hitsM ((splitB 32 a).getD 1 []) t.2.2 (numM ((splitB 32 a).getD 2 []))); dsimp only; omega⟩
   ·split
    ·exact ⟨v,fmtM_BS _,by have:=fmtM_len t.2.2; dsimp only; omega⟩
    ·split
     ·exact ⟨v,fmtM_BS _,by have:=fmtM_len (dirtyL t.2.1); have:=dirtyL_len t.2.1; dsimp only; omega⟩
     ·split
      ·exact ⟨⟨v.1.flush,v.2⟩,bs_ok,by simp⟩
      ·exact ⟨v,bs_what,by simp⟩
theorem getS (W:List (LI)) (i:Nat):(W.map strOfNums).getD i ByteArray.empty=strOfNums (W.getD i []):=by
 rw [List.getD_eq_getElem?_getD,List.getElem?_map,List.getD_eq_getElem?_getD]
 cases W[i]? <;> rfl
theorem sesF_BS:∀ (ls:List (LI)) {t:SesT},VSes t→BS (sesF ls t)
 | [],_,_=>fun x hx=>by simp [sesF] at hx
 | a :: r,t,v=>by
  have h:=step_ok v a
  rw [sesF]
  exact h.2.1.append ((BS.one (x:=10) (by omega)).append (sesF_BS r h.1))
theorem beqB {a b:LI} (ha:BS a) (hb:BS b):(strOfNums a==strOfNums b)=decide (a=b):=by
 rw [← str_eq ha hb,toList_data,toList_data]
 cases strOfNums a with
 | mk x=>
  cases strOfNums b with
  | mk y=>
   show (x==y)=(x.toList==y.toList)
   rw [Array.beq_toList]

def T0_qbn (c:LB) (a b:Int) (k:Int→Prop) (B0:Int→Int→Prop):Prop:=br (decide (b < (c.length:Int))) ((0≤b∧b < (c.length:Int))∧InR (a - ((ByteArray.size (List.getD c (Int.toNat b) ByteArray.empty)):Int))∧br (decide ((a - ((ByteArray.size (List.getD c (Int.toNat b) ByteArray.empty)):Int)) < 0)) (k (-1)) (InR (b+1)∧B0 (a - ((ByteArray.size (List.getD c (Int.toNat b) ByteArray.empty)):Int)) (b+1))) (k a)
def L0_qbn (b:LB) (k:Int→Prop):Nat→Int→Int→Prop | 0,_,_=>False | n+1,a,c=>T0_qbn b a c k (L0_qbn b k n)
def G_qbn (b:LB) (a:Int) (k:Int→Prop) (I0:LB→Int→Int→Prop):Prop:=InR (a - (b.length:Int))∧br (decide ((a - (b.length:Int)) < 0)) (k (-1)) (I0 b (a - (b.length:Int)) 0)
def S_qbn (c:LB) (b:Int) (k:Int→Prop):Prop:=G_qbn c b k (fun c a d=>∃ j,L0_qbn c k j a d)
def F_qbn (a:List ByteArray) (left:Int) (k:Int→Prop):Prop:=
 (a.length≤maxLen∧(∀ s∈a,s.size≤maxLen)∧-1≤left∧left≤1048576)∧∀ r:Int,-1≤r→r≤1048576→(0≤r→(a.length:Int)+r≤left∧∀ s∈a,(ByteArray.size s:Int)≤left)→k r
theorem F_qbn_S {a:List ByteArray} {left:Int} {k:Int→Prop} (h:F_qbn a left k):S_qbn a left k:=by
 obtain ⟨⟨h1,h4,h2,h3⟩,hk⟩:=h
 have hm:maxLen=9223372036854775807:=rfl
 have go:∀ (m i:Nat) (r:Int),i+m=a.length→0≤r→(a.length:Int)+r≤left→(∀ s∈a.take i,(ByteArray.size s:Int)≤left)→L0_qbn a k (m+1) r (i:Int):=by
  intro m
  induction m with
  | zero=>
   intro i r hi h0 hr hs
   rw [List.take_of_length_le (by omega)] at hs
   rw [L0_qbn,T0_qbn]
   exact br_nd (by omega) (hk r (by omega) (by omega) fun _=>⟨hr,hs⟩)
  | succ m ih=>
   intro i r hi h0 hr hs
   have hx:a.getD i ByteArray.empty∈a:=by rw [List.getD_eq_getElem?_getD,List.getElem?_eq_getElem (by omega)]; exact List.getElem_mem _
   have hsz:=h4 _ hx
   rw [L0_qbn,T0_qbn]
   simp only [Int.toNat_natCast]
   refine br_yd (by omega) ⟨⟨by omega,by omega⟩,inR (by omega) (by omega),br_dec.2 ⟨fun _=>hk (-1) (by omega) (by omega) fun h=>by omega,fun g=>⟨inR (by omega) (by omega),ih (i+1) _ (by omega) (by omega) (by omega) fun s hs2=>?_⟩⟩⟩
   rw [List.take_add_one,List.getElem?_eq_getElem (show i < a.length by omega)] at hs2
   rcases List.mem_append.1 hs2 with c | c
   ·exact hs s c
   ·have:s=a.getD i ByteArray.empty:=by
     rw [List.getD_eq_getElem?_getD,List.getElem?_eq_getElem (show i < a.length by omega)]
     simpa using c
    rw [this]; omega
 refine ⟨inR (by omega) (by omega),br_dec.2 ⟨fun _=>hk (-1) (by omega) (by omega) fun h=>by omega,fun g=>⟨a.length+1,?_⟩⟩⟩
 exact go a.length 0 _ (by omega) (by omega) (by omega) (by simp)

def T0_qbo (c:LB) (a:Int) (b:LB) (k:LB→Prop) (B0:Int→LB→Prop):Prop:=br (decide (a < (c.length:Int))) ((0≤a∧a < (c.length:Int))∧(0≤a∧a < (b.length:Int))∧InR (a+1)∧B0 (a+1) (List.set b (Int.toNat a) (List.getD c (Int.toNat a) ByteArray.empty))) (k b)
def L0_qbo (a:LB) (k:LB→Prop):Nat→Int→LB→Prop | 0,_,_=>False | n+1,b,c=>T0_qbo a b c k (L0_qbo a k n)
def G_qbo (a:LB) (I0:LB→Int→LB→Prop):Prop:=((a.length:Int)=(a.length:Int)∧0≤(a.length:Int)∧(a.length:Int)≤1000000000)∧I0 a 0 (List.replicate (Int.toNat (a.length:Int)) ByteArray.empty)
def S_qbo (a:LB) (k:LB→Prop):Prop:=G_qbo a (fun a b c=>∃ j,L0_qbo a k j b c)
def F_qbo (a:List ByteArray) (k:List ByteArray→Prop):Prop:=a.length≤1000000000∧k a
theorem F_qbo_S {a:List ByteArray} {k:List ByteArray→Prop} (h:F_qbo a k):S_qbo a k:=by
 obtain ⟨hl,hk⟩:=h
 have go:∀ (m i:Nat) (out:List ByteArray),i+m=a.length→out.length=a.length→out.take i=a.take i→L0_qbo a k (m+1) (i:Int) out:=by
  intro m
  induction m with
  | zero=>
   intro i out hi ho he
   rw [L0_qbo,T0_qbo]
   rw [List.take_of_length_le (by omega),List.take_of_length_le (by omega)] at he
   refine br_nd (by omega) ?_
   rw [he]; exact hk
  | succ m ih=>
   intro i out hi ho he
   rw [L0_qbo,T0_qbo]
   simp only [Int.toNat_natCast]
   refine br_yd (by omega) ⟨⟨by omega,by omega⟩,⟨by omega,by omega⟩,inR (by omega) (by omega),ih (i+1) _ (by omega) (by simpa using ho) ?_⟩
   rw [take_set_succ (by omega),he,List.take_add_one,List.getElem?_eq_getElem (show i < a.length by omega),List.getD_eq_getElem?_getD,List.getElem?_eq_getElem (show i < a.length by omega)]; rfl
 refine ⟨⟨rfl,by omega,by omega⟩,a.length+1,?_⟩
 rw [Int.toNat_natCast]
 exact go a.length 0 _ (by omega) (by simp) (by simp)

def T0_qdq (e:Int) (d:ByteArray) (a b:Int) (c:LB) (k:LB→Prop) (B0:Int→Int→LB→Prop):Prop:=br (decide (b < ((ByteArray.size d):Int))) ((0≤b∧b < (ByteArray.size d:Int))∧br (((Array.getD d.data (Int.toNat b) 0).toNat:Int)==e) ((0≤a∧a≤b∧b≤((ByteArray.size d):Int))∧(c.length+1≤1000000000)∧InR (b+1)∧InR (b+1)∧B0 (b+1) (b+1) (c++([(ByteArray.extract d (Int.toNat a) (Int.toNat b))]:LB))) (InR (b+1)∧B0 a (b+1) c)) ((0≤a∧a≤((ByteArray.size d):Int))∧(c.length+1≤1000000000)∧k (c++([(ByteArray.extract d (Int.toNat a) (ByteArray.size d))]:LB)))
def L0_qdq (c:Int) (d:ByteArray) (k:LB→Prop):Nat→Int→Int→LB→Prop | 0,_,_,_=>False | n+1,a,e,b=>T0_qdq c d a e b k (L0_qdq c d k n)
def G_qdq (a:ByteArray) (b:Int) (I0:Int→ByteArray→Int→Int→LB→Prop):Prop:=I0 b a 0 0 ([]:LB)
def S_qdq (c:ByteArray) (d:Int) (k:LB→Prop):Prop:=G_qdq c d (fun d c a e b=>∃ j,L0_qdq d c k j a e b)
def F_qdq (s:ByteArray) (c:Int) (k:List ByteArray→Prop):Prop:=∃ a,(BS a∧s=strOfNums a∧a.length≤100000000)∧k ((splitB c a).map strOfNums)
theorem F_qdq_S {s:ByteArray} {c:Int} {k:List ByteArray→Prop} (h:F_qdq s c k):S_qdq s c k:=by
 obtain ⟨a,⟨hb,rfl,hl⟩,hk⟩:=h
 have go:∀ (m i f:Nat) (out:List (LI)),i+m=a.length→f≤i→(∀ x∈(a.take i).drop f,x≠c)→splitB c a=out++splitB c (a.drop f)→out.length≤i→L0_qdq c (strOfNums a) k (m+1) (f:Int) (i:Int) (out.map strOfNums):=by
  intro m
  induction m with
  | zero=>
   intro i f out hi hf hn he ho
   rw [L0_qdq,T0_qdq]
   simp only [str_size]
   refine br_nd (by omega) ⟨⟨by omega,by omega⟩,by rw [List.length_map]; omega,?_⟩
   rw [str_extract,Int.toNat_natCast,List.take_of_length_le (by omega)]
   rw [List.take_of_length_le (by omega)] at hn
   rw [splitB_none hn] at he
   rw [he,List.map_append] at hk
   exact hk
  | succ m ih=>
   intro i f out hi hf hn he ho
   rw [L0_qdq,T0_qdq]
   simp only [str_size,str_index hb,str_extract,Int.toNat_natCast]
   have htk:a.take (i+1)=a.take i++[a.getD i 0]:=takeI (by omega)
   refine br_yd (by omega) ⟨⟨by omega,by omega⟩,br_beq.2 ⟨fun g=>⟨⟨by omega,by omega,by omega⟩,by rw [List.length_map]; omega,inR (by omega) (by omega),inR (by omega) (by omega),?_⟩,fun g=>⟨inR (by omega) (by omega),?_⟩⟩⟩
   ·have e2:a.drop f=(a.take i).drop f++c :: a.drop (i+1):=by
     have e3:a.drop i=c :: a.drop (i+1):=by
      rw [List.drop_eq_getElem_cons (by omega)]
      congr 1
      rw [← g,List.getD_eq_getElem?_getD,List.getElem?_eq_getElem (by omega)]; rfl
     rw [← e3]
     conv=>lhs; rw [← List.take_append_drop i a]
     rw [List.drop_append,List.length_take,show f - min i a.length=0 by omega,List.drop_zero]
    rw [e2,splitB_app hn] at he
    have:=ih (i+1) (i+1) (out++[(a.take i).drop f]) (by omega) (by omega) (by rw [List.drop_eq_nil_of_le (by rw [List.length_take]; omega)]; simp) (by rw [he,List.append_assoc]; rfl) (by rw [List.length_append,List.length_singleton]; omega)
    rw [List.map_append] at this
    exact this
   ·refine ih (i+1) f out (by omega) (by omega) ?_ he (by omega)
    rw [htk,List.drop_append,List.length_take,show f - min i a.length=0 by omega,List.drop_zero]
    intro x hx
    rcases List.mem_append.1 hx with h | h
    ·exact hn x h
    ·rw [List.mem_singleton.1 h]; exact g
 exact ⟨_,go a.length 0 0 [] (by omega) (by omega) (by simp) (by simp) (by simp)⟩

def G_qdc (c b a:Int) (k:Bool→Prop):Prop:=br (decide (b≤c)) (k (decide (c≤a))) (k false)
def S_qdc (c b a:Int) (k:Bool→Prop):Prop:=G_qdc c b a k
def F_qdc (n low high:Int) (k:Bool→Prop):Prop:=k (decide (low≤n∧n≤high))
theorem F_qdc_S {n low high:Int} {k:Bool→Prop} (h:F_qdc n low high k):S_qdc n low high k:=by
 unfold F_qdc at h
 simp only [S_qdc,G_qdc,br_dec]
 refine ⟨fun h1=>?_,fun h1=>?_⟩
 ·simpa [h1] using h
 ·simpa [h1] using h

def M_qcw (n:Int):Nat:=if n < 0 then (-n).toNat+100000 else n.toNat
def F_qcw (n:Int) (k:ByteArray→Prop):Prop:=(-9999≤n∧n≤9999)∧k (strOfNums (decB n))
def Fr_qcw (nn:Nat) (n0:Int) (k:ByteArray→Prop):Prop:=M_qcw n0 < nn∧F_qcw n0 k
def G_qcw_j0 (a:ByteArray) (b:Int) (k:ByteArray→Prop):Prop:=((ByteArray.size a+ByteArray.size (strOfNums ([(48+(Int.tmod b 10))]:LI))≤1000000000)∧k (a++(strOfNums ([(48+(Int.tmod b 10))]:LI))))∧(True)
def G_qcw_j1 (b:Int) (nn:Nat) (k:ByteArray→Prop):Prop:=br (decide (b < 0)) (InR (0 - b)∧Fr_qcw nn (0 - b) fun c=>(ByteArray.size (strOfNums [45])+ByteArray.size c≤1000000000)∧k ((strOfNums [45])++c)) (br (decide (b < 10)) (InR (48+b)∧(0≤(48+b)∧(48+b)≤255)∧k (strOfNums ([(48+b)]:LI))) (((10:Int)≠0∧InR (Int.tdiv b 10))∧((10:Int)≠0)∧InR (48+(Int.tmod b 10))∧(0≤(48+(Int.tmod b 10))∧(48+(Int.tmod b 10))≤255)∧(Fr_qcw nn (Int.tdiv b 10) fun a=>(G_qcw_j0 a b k)∧(True))∧(((Fr_qcw nn (Int.tdiv b 10) fun a=>G_qcw_j0 a b k)∧(((Fr_qcw nn (Int.tdiv b 10) fun a=>(ByteArray.size a+ByteArray.size (strOfNums ([(48+(Int.tmod b 10))]:LI))≤1000000000)∧k (a++(strOfNums ([(48+(Int.tmod b 10))]:LI))))∧(True))∧(True)))∧(True))))
def G_qcw (nn:Nat) (a:Int) (k:ByteArray→Prop):Prop:=br (decide (a < 0)) (InR (0 - a)∧br (a==(0 - a)) (k (strOfNums [45,57,50,50,51,51,55,50,48,51,54,56,53,52,55,55,53,56,48,56])) (G_qcw_j1 a nn k)) (G_qcw_j1 a nn k)
def H_qcw_j0 (a:Int) (nn:Nat) (k:ByteArray→Prop):Prop:=br (decide (a < 0)) (InR (0 - a)∧Fr_qcw nn (0 - a) fun b=>(ByteArray.size (strOfNums [45])+ByteArray.size b≤1000000000)∧k ((strOfNums [45])++b)) (br (decide (a < 10)) (InR (48+a)∧(0≤(48+a)∧(48+a)≤255)∧k (strOfNums ([(48+a)]:LI))) (((10:Int)≠0∧InR (Int.tdiv a 10))∧((10:Int)≠0)∧InR (48+(Int.tmod a 10))∧(0≤(48+(Int.tmod a 10))∧(48+(Int.tmod a 10))≤255)∧Fr_qcw nn (Int.tdiv a 10) fun c=>(ByteArray.size c+ByteArray.size (strOfNums ([(48+(Int.tmod a 10))]:LI))≤1000000000)∧k (c++(strOfNums ([(48+(Int.tmod a 10))]:LI)))))
def H_qcw (nn:Nat) (a:Int) (k:ByteArray→Prop):Prop:=br (decide (a < 0)) (InR (0 - a)∧br (a==(0 - a)) (k (strOfNums [45,57,50,50,51,51,55,50,48,51,54,56,53,52,55,55,53,56,48,56])) (H_qcw_j0 a nn k)) (H_qcw_j0 a nn k)
theorem G_qcw_eq (nn:Nat) (a:Int) (k:ByteArray→Prop):G_qcw nn a k=H_qcw nn a k:=by
 first
 | (simp only [G_qcw,H_qcw,G_qcw_j0,G_qcw_j1,H_qcw_j0,and_self,and_true]; done)
 | (simp only [G_qcw,H_qcw,G_qcw_j0,G_qcw_j1,H_qcw_j0,and_self,and_true,and_self_left,and_assoc]; refine propext ⟨fun h=>?_,fun h=>?_⟩ <;> (repeat (cases ‹_∧_›)) <;> (repeat' (apply And.intro)) <;> assumption)
def S_qcw (nn:Nat) (a:Int) (k:ByteArray→Prop):Prop:=H_qcw nn a k
theorem F_qcw_S {nn:Nat} {n:Int} {k:ByteArray→Prop} (hm:M_qcw n≤nn) (h:F_qcw n k):S_qcw nn n k:=by
 obtain ⟨⟨h1,h2⟩,hk⟩:=h
 unfold M_qcw at hm
 have j0:H_qcw_j0 n nn k:=by
  unfold H_qcw_j0
  refine br_dec.2 ⟨fun c=>⟨inR (by omega) (by omega),⟨?_,⟨by omega,by omega⟩,?_,?_⟩⟩,fun c=>br_dec.2 ⟨fun c2=>⟨inR (by omega) (by omega),⟨by omega,by omega⟩,?_⟩,fun c2=>?_⟩⟩
  ·unfold M_qcw; rw [if_pos c] at hm; rw [if_neg (by omega)]; omega
  ·rw [str_size,str_size]; have:=decB_len (0 - n); rw [List.length_singleton]; omega
  ·rw [str_append]; rw [decB_neg c] at hk; exact hk
  ·rw [decB_small (by omega) c2] at hk; exact hk
  ·have e1:Int.tdiv n 10=n / 10:=Int.tdiv_eq_ediv_of_nonneg (by omega)
   have e2:Int.tmod n 10=n % 10:=Int.tmod_eq_emod_of_nonneg (by omega)
   rw [e1,e2]
   refine ⟨⟨by omega,inR (by omega) (by omega)⟩,by omega,inR (by omega) (by omega),⟨by omega,by omega⟩,⟨?_,⟨by omega,by omega⟩,?_,?_⟩⟩
   ·unfold M_qcw; rw [if_neg c] at hm; rw [if_neg (by omega)]; omega
   ·rw [str_size,str_size]; have:=decB_len (n / 10); rw [List.length_singleton]; omega
   ·rw [str_append]; rw [decB_big (by omega) h2] at hk; exact hk
 exact br_dec.2 ⟨fun c=>⟨inR (by omega) (by omega),br_beq.2 ⟨fun e=>by omega,fun _=>j0⟩⟩,fun _=>j0⟩

def T0_qdk_j0 (c:ByteArray) (b:Int) (k:Int→Bool→Prop):Prop:=br (((ByteArray.size c):Int)==0) (k 0 false) (br (decide (((ByteArray.size c):Int) > 4)) (k 0 false) (F_qcw b fun a=>br (!(ByteArray.toList a==ByteArray.toList c)) (k 0 false) (k b true)))
def T0_qdk_j1 (a:ByteArray) (b:Int) (k:Int→Bool→Prop):Prop:=br (decide (((ByteArray.size a):Int) > 0)) ((0≤(0:Int)∧0 < (ByteArray.size a:Int))∧br (((Array.getD a.data 0 0).toNat:Int)==45) (InR (0 - b)∧br (((ByteArray.size a):Int)==0) (k 0 false) (br (decide (((ByteArray.size a):Int) > 4)) (k 0 false) (F_qcw (0 - b) fun c=>br (!(ByteArray.toList c==ByteArray.toList a)) (k 0 false) (k (0 - b) true)))) (T0_qdk_j0 a b k)) (T0_qdk_j0 a b k)
def T0_qdk (b:ByteArray) (c a:Int) (k:Int→Bool→Prop) (B0:Int→Int→Prop):Prop:=br (decide (a < ((ByteArray.size b):Int))) (br (decide (((ByteArray.size b):Int)≤4)) ((0≤a∧a < (ByteArray.size b:Int))∧InR ((Array.getD b.data (Int.toNat a) 0).toNat:Int)∧F_qdc ((Array.getD b.data (Int.toNat a) 0).toNat:Int) (48:Int) (57:Int) fun d=>br d (InR (10*c)∧(0≤a∧a < (ByteArray.size b:Int))∧InR ((Array.getD b.data (Int.toNat a) 0).toNat:Int)∧InR ((10*c)+((Array.getD b.data (Int.toNat a) 0).toNat:Int))∧InR (((10*c)+((Array.getD b.data (Int.toNat a) 0).toNat:Int)) - 48)∧InR (a+1)∧B0 (((10*c)+((Array.getD b.data (Int.toNat a) 0).toNat:Int)) - 48) (a+1)) (br (decide (a > 0)) (k 0 false) ((0≤a∧a < (ByteArray.size b:Int))∧br (((Array.getD b.data (Int.toNat a) 0).toNat:Int) != 45) (k 0 false) (InR (a+1)∧B0 c (a+1))))) (T0_qdk_j1 b c k)) (T0_qdk_j1 b c k)
def L0_qdk (a:ByteArray) (k:Int→Bool→Prop):Nat→Int→Int→Prop | 0,_,_=>False | n+1,b,c=>T0_qdk a b c k (L0_qdk a k n)
def G_qdk (a:ByteArray) (I0:ByteArray→Int→Int→Prop):Prop:=I0 a 0 0
def S_qdk (a:ByteArray) (k:Int→Bool→Prop):Prop:=G_qdk a (fun a b c=>∃ j,L0_qdk a k j b c)
def F_qdk (s:ByteArray) (k:Int→Bool→Prop):Prop:=∃ a,(BS a∧s=strOfNums a∧a.length≤100000000)∧(∀ n,NumB a n→k n true)∧((¬ ∃ n,NumB a n)→k 0 false)
theorem F_qdk_S {s:ByteArray} {k:Int→Bool→Prop} (h:F_qdk s k):S_qdk s k:=by
 obtain ⟨a,⟨hb,rfl,hl⟩,hyes,hno⟩:=h
 have no:(∀ n,NumB a n→False)→k 0 false:=fun h=>hno fun ⟨n,hn⟩=>h n hn
 have endj:∀ n:Int,(-9999≤n∧n≤9999)→a.length≤4→(∀ m,NumB a m→m=n)→br (!(ByteArray.toList (strOfNums (decB n))==ByteArray.toList (strOfNums a))) (k 0 false) (k n true):=by
  intro n hn h4 hu
  rw [str_eq (decB_BS n) hb]
  refine br_not.2 (br_dec.2 ⟨fun e=>hyes n ⟨hn,e,h4⟩,fun e=>no fun m hm=>?_⟩)
  have:=hu m hm
  subst this; exact e hm.2.1
 have fin:∀ n:Int,(0≤n∧n≤9999)→(a.length≤4→n=valS a)→T0_qdk_j1 (strOfNums a) n k:=by
  intro n hn hv
  unfold T0_qdk_j1 T0_qdk_j0
  simp only [str_size,str_index hb]
  have sgn:a.length≤4→∀ m,NumB a m→(a.getD 0 0=45↔m < 0)∧n=if m < 0 then 0 - m else m:=by
   intro h4 m hm
   have h1:=valS_dec hm.1
   rw [hm.2.1] at h1
   exact ⟨h1.1,(hv h4).trans h1.2⟩
  refine br_dec.2 ⟨fun g=>⟨⟨by omega,by omega⟩,br_beq.2 ⟨fun c=>⟨inR (by omega) (by omega),br_nd' (by omega) (br_dec.2 ⟨fun l4=>no fun m hm=>by have:=hm.2.2; omega,fun l4=>⟨⟨by omega,by omega⟩,endj _ ⟨by omega,by omega⟩ (by omega) fun m hm=>?_⟩⟩)⟩,fun c=>br_nd' (by omega) (br_dec.2 ⟨fun l4=>no fun m hm=>by have:=hm.2.2; omega,fun l4=>⟨⟨by omega,by omega⟩,endj _ ⟨by omega,by omega⟩ (by omega) fun m hm=>?_⟩⟩)⟩⟩,fun g=>br_ye (by omega) (no fun m hm=>?_)⟩
  ·have:=sgn (by omega) m hm
   have:=this.1.1 c
   split at*<;> omega
  ·obtain ⟨s1,s2⟩:=sgn (by omega) m hm
   have:¬ m < 0:=fun q=>c (s1.2 q)
   rw [if_neg this] at s2; omega
  ·have:=decB_ne m
   rw [hm.2.1] at this
   exact this (List.eq_nil_of_length_eq_zero (by omega))
 have go:∀ (m i:Nat) (n:Int),i+m=a.length→n=valS (a.take i)→(i≤4∨i=0)→((i=0∧n=0)∨(i=1∧0≤n∧n≤9)∨(i=2∧0≤n∧n≤99)∨(i=3∧0≤n∧n≤999)∨(i=4∧0≤n∧n≤9999))→L0_qdk (strOfNums a) k (m+1) n (i:Int):=by
  intro m
  induction m with
  | zero=>
   intro i n hi hv h4 hr
   rw [L0_qdk,T0_qdk]
   simp only [str_size]
   refine br_nd (by omega) (fin n (by omega) fun _=>?_)
   rw [hv,List.take_of_length_le (by omega)]
  | succ m ih=>
   intro i n hi hv h4 hr
   rw [L0_qdk,T0_qdk]
   simp only [str_size,str_index hb,Int.toNat_natCast]
   have hx:=hb _ (getI_mem (l:=a) (i:=i) (by omega))
   have hat:a[i]?=some (a.getD i 0):=some_of (by omega)
   refine br_yd (by omega) (br_dec.2 ⟨fun l4=>⟨⟨by omega,by omega⟩,inR (by omega) (by omega),br_dec.2 ⟨fun d=>⟨inR (by omega) (by omega),⟨by omega,by omega⟩,inR (by omega) (by omega),inR (by omega) (by omega),inR (by omega) (by omega),inR (by omega) (by omega),ih (i+1) _ (by omega) ?_ (by omega) (by omega)⟩,fun d=>br_dec.2 ⟨fun p=>no fun q hq=>?_,fun p=>⟨⟨by omega,by omega⟩,br_bne.2 ⟨fun c=>no fun q hq=>?_,fun c=>⟨inR (by omega) (by omega),ih (i+1) n (by omega) ?_ (by omega) (by omega)⟩⟩⟩⟩⟩⟩,fun l4=>fin n (by omega) fun q=>by omega⟩)
   ·rw [takeI (by omega),valS_snoc (by omega),hv]
   ·rw [← hq.2.1] at hat
    have:=decB_sign hat
    rw [hq.2.1] at this; omega
   ·rw [← hq.2.1] at hat
    have:=decB_sign hat
    rw [hq.2.1] at this; omega
   ·have h0:i=0:=by omega
    subst h0
    rw [takeI (by omega),hv,List.take_zero,List.nil_append,c]; rfl
 exact ⟨_,go a.length 0 0 (by omega) (by simp [valS,valD]) (.inr rfl) (.inl ⟨rfl,rfl⟩)⟩

def G_qdi (c:ByteArray) (k:Int→Prop):Prop:=F_qdk c fun a b=>br (!b) (k (-1)) (k a)
def S_qdi (a:ByteArray) (k:Int→Prop):Prop:=G_qdi a k
def F_qdi (s:ByteArray) (k:Int→Prop):Prop:=∃ a,(BS a∧s=strOfNums a∧a.length≤100000000)∧k (numM a)
theorem F_qdi_S {s:ByteArray} {k:Int→Prop} (h:F_qdi s k):S_qdi s k:=by
 obtain ⟨a,R,hk⟩:=h
 refine ⟨a,R,fun n hn=>br_nt ?_,fun hn=>br_nf ?_⟩
 ·unfold numM at hk; rw [parseB_iff.2 hn] at hk; exact hk
 ·unfold numM at hk
  cases e:parseB a with
  | none=>rw [e] at hk; exact hk
  | some n=>exact absurd ⟨n,parseB_iff.1 e⟩ hn

def T0_qcp (d:Int) (b:LI) (e a:Int) (k:Bool→Prop) (B0:Int→Prop):Prop:=br (decide (a < (b.length:Int))) ((0≤a∧a < (b.length:Int))∧F_qdc (List.getD b (Int.toNat a) (0:Int)) e d fun c=>br (!c) (k false) (InR (a+1)∧B0 (a+1))) (k true)
def L0_qcp (a:Int) (b:LI) (c:Int) (k:Bool→Prop):Nat→Int→Prop | 0,_=>False | n+1,d=>T0_qcp a b c d k (L0_qcp a b c k n)
def G_qcp (a:LI) (c b:Int) (I0:Int→LI→Int→Int→Prop):Prop:=I0 b a c 0
def S_qcp (a:LI) (c b:Int) (k:Bool→Prop):Prop:=G_qcp a c b (fun b a c d=>∃ j,L0_qcp b a c k j d)
def F_qcp (l:LI) (low high:Int) (k:Bool→Prop):Prop:=l.length≤1000000000∧k (decide (∀ x∈l,low≤x∧x≤high))
theorem F_qcp_S {l:LI} {low high:Int} {k:Bool→Prop} (h:F_qcp l low high k):S_qcp l low high k:=by
 obtain ⟨hl,hk⟩:=h
 have key:∀ (r:LI) (i:Nat),l.drop i=r→((∀ x∈r,low≤x∧x≤high)↔(∀ x∈l,low≤x∧x≤high))→L0_qcp high l low k (r.length+1) (i:Int):=by
  intro r
  induction r with
  | nil=>
   intro i hd he
   have:=drop_nil' hd
   rw [L0_qcp,T0_qcp]
   simp only [br_dec]
   refine ⟨fun h=>by omega,fun _=>?_⟩
   rwa [decide_eq_true (he.1 (by simp))] at hk
  | cons x r ih=>
   intro i hd he
   obtain ⟨h1,h2,_,h3,_⟩:=drop_cons' hd
   rw [List.length_cons,L0_qcp,T0_qcp]
   simp only [br_dec,F_qdc,br_not,Int.toNat_natCast,h2]
   refine ⟨fun _=>⟨⟨by omega,by omega⟩,fun hx=>⟨inR (by omega) (by omega),?_⟩,fun hx=>?_⟩,fun h=>by omega⟩
   ·refine ih (i+1) h3 (Iff.trans ?_ he)
    simp only [List.mem_cons,forall_eq_or_imp]
    exact ⟨fun h=>⟨hx,h⟩,fun h=>h.2⟩
   ·rwa [decide_eq_false (fun h=>hx (he.2 h x (by simp)))] at hk
 exact ⟨_,key l 0 rfl Iff.rfl⟩

def T1_qdt (a:LT) (d b c:Int) (k:Bool→Prop) (B0:Int→Prop) (B1:Int→Prop):Prop:=br (decide (c < b)) ((0≤c∧c < (a.length:Int))∧(0≤b∧b < (a.length:Int))∧br ((List.getD a (Int.toNat c) ((0:Int),(0:Int),false)).1==(List.getD a (Int.toNat b) ((0:Int),(0:Int),false)).1) (k false) (InR (c+1)∧B1 (c+1))) (InR (b+1)∧B0 (b+1))
def L1_qdt (a:LT) (b c:Int) (k:Bool→Prop) (B0:Int→Prop):Nat→Int→Prop | 0,_=>False | n+1,d=>T1_qdt a b c d k B0 (L1_qdt a b c k B0 n)
def T0_qdt (a:LT) (c b:Int) (k:Bool→Prop) (I1:LT→Int→Int→Int→Prop):Prop:=br (decide (b < (a.length:Int))) ((0≤b∧b < (a.length:Int))∧F_qdc (List.getD a (Int.toNat b) ((0:Int),(0:Int),false)).1 (0:Int) (31:Int) fun d=>br (!d) (k false) ((0≤b∧b < (a.length:Int))∧F_qdc (List.getD a (Int.toNat b) ((0:Int),(0:Int),false)).2.1 (-1000:Int) (1000:Int) fun e=>br (!e) (k false) (I1 a c b 0))) (F_qdc c (1:Int) (8:Int) fun f=>br f (k (decide ((a.length:Int)≤c))) (k false))
def L0_qdt (a:LT) (b:Int) (k:Bool→Prop):Nat→Int→Prop | 0,_=>False | n+1,c=>T0_qdt a b c k (fun a b c d=>∃ j,L1_qdt a b c k (L0_qdt a b k n) j d)
def G_qdt (a:LT) (b:Int) (I0:LT→Int→Int→Prop):Prop:=I0 a b 0
def S_qdt (a:LT) (b:Int) (k:Bool→Prop):Prop:=G_qdt a b (fun a b c=>∃ j,L0_qdt a b k j c)
def F_qdt (l:LT) (room:Int) (k:Bool→Prop):Prop:=l.length≤1000000000∧∀ b:Bool,(b=true↔VLn l room)→k b
theorem F_qdt_S {l:LT} {room:Int} {k:Bool→Prop} (h:F_qdt l room k):S_qdt l room k:=by
 obtain ⟨hl,h⟩:=h
 have no:¬ VLn l room→k false:=fun hv=>h false (by simp [hv])
 have key:∀ (m i:Nat),i+m=l.length→((∀ e∈l.take i,(0≤e.1∧e.1≤31)∧-1000≤e.2.1∧e.2.1≤1000)∧((l.take i).map (·.1)).Nodup)→L0_qdt l room k (m+1) (i:Int):=by
  intro m
  induction m with
  | zero=>
   intro i hi hp
   rw [List.take_of_length_le (by omega)] at hp
   rw [L0_qdt,T0_qdt]
   refine br_nd (by omega) (br_dec.2 ⟨fun r=>h _ ?_,fun r=>no fun v=>r v.2.1⟩)
   rw [decide_eq_true_iff]
   exact ⟨fun g=>⟨hp,r,g⟩,fun v=>v.2.2⟩
  | succ m ih=>
   intro i hi hp
   have hm:l.getD i ((0:Int),(0:Int),false)∈l:=getL_mem (by omega)
   rw [L0_qdt,T0_qdt]
   simp only [Int.toNat_natCast]
   refine br_yd (by omega) ⟨⟨by omega,by omega⟩,br_not.2 (br_dec.2 ⟨fun r1=>⟨⟨by omega,by omega⟩,br_not.2 (br_dec.2 ⟨fun r2=>?_,fun r2=>no fun v=>r2 (v.1.1 _ hm).2⟩)⟩,fun r1=>no fun v=>r1 (v.1.1 _ hm).1⟩)⟩
   have inner:∀ (mm q:Nat),q+mm=i→(∀ e∈l.take q,e.1≠(l.getD i ((0:Int),(0:Int),false)).1)→L1_qdt l room (i:Int) k (L0_qdt l room k (m+1)) (mm+1) (q:Int):=by
    intro mm
    induction mm with
    | zero=>
     intro q hq hn
     rw [L1_qdt,T1_qdt]
     rw [show q=i by omega] at hn ⊢
     refine br_nd (by omega) ⟨inR (by omega) (by omega),ih (i+1) (by omega) ?_⟩
     rw [takeL (by omega)]
     refine ⟨fun e he=>?_,?_⟩
     ·rcases List.mem_append.1 he with c | c
      ·exact hp.1 e c
      ·rw [List.mem_singleton.1 c]; exact ⟨r1,r2⟩
     ·rw [List.map_append,List.nodup_append]
      refine ⟨hp.2,by simp,fun a ha b hb=>?_⟩
      obtain ⟨e,he,rfl⟩:=List.mem_map.1 ha
      simp only [List.map_cons,List.map_nil,List.mem_singleton] at hb
      rw [hb]; exact hn e he
    | succ mm ih2=>
     intro q hq hn
     rw [L1_qdt,T1_qdt]
     simp only [Int.toNat_natCast]
     refine br_yd (by omega) ⟨⟨by omega,by omega⟩,⟨by omega,by omega⟩,br_beq.2 ⟨fun g=>no fun v=>by have:=map_inj_nodup v.1.2 (i:=q) (j:=i) (by omega) (by omega) g; omega,fun g=>⟨inR (by omega) (by omega),ih2 (q+1) (by omega) fun e he=>?_⟩⟩⟩
     rw [takeL (by omega)] at he
     rcases List.mem_append.1 he with c | c
     ·exact hn e c
     ·rw [List.mem_singleton.1 c]; exact g
   exact ⟨_,inner i 0 (by omega) (by simp)⟩
 exact ⟨_,key l.length 0 (by omega) ⟨by simp,by simp⟩⟩

def T0_qcr (a:LT) (d:Int) (c:LI) (b:Int) (k:Bool→Prop) (B0:Int→Prop):Prop:=br (decide (b < (a.length:Int))) ((0≤b∧b < (a.length:Int))∧br (!(List.getD a (Int.toNat b) ((0:Int),(0:Int),false)).2.2) ((0≤b∧b < (a.length:Int))∧(0≤b∧b < (a.length:Int))∧(0≤(List.getD a (Int.toNat b) ((0:Int),(0:Int),false)).1∧(List.getD a (Int.toNat b) ((0:Int),(0:Int),false)).1 < (c.length:Int))∧br ((List.getD a (Int.toNat b) ((0:Int),(0:Int),false)).2.1 != (List.getD c (Int.toNat (List.getD a (Int.toNat b) ((0:Int),(0:Int),false)).1) (0:Int))) (k false) (InR (b+1)∧B0 (b+1))) (InR (b+1)∧B0 (b+1))) (k true)
def L0_qcr (a:LT) (c:Int) (b:LI) (k:Bool→Prop):Nat→Int→Prop | 0,_=>False | n+1,d=>T0_qcr a c b d k (L0_qcr a c b k n)
def G_qcr (a:LI) (b:LT) (c:Int) (I0:LT→Int→LI→Int→Prop):Prop:=I0 b c a 0
def S_qcr (a:LI) (b:LT) (c:Int) (k:Bool→Prop):Prop:=G_qcr a b c (fun b c a d=>∃ j,L0_qcr b c a k j d)
def F_qcr (s:LI) (l:LT) (room:Int) (k:Bool→Prop):Prop:=
 (s.length=32∧l.length≤1000000000∧∀ e∈l,0≤e.1∧e.1≤31)∧∀ b:Bool,(b=true↔Clean s l)→k b
theorem F_qcr_S {s:LI} {l:LT} {room:Int} {k:Bool→Prop} (h:F_qcr s l room k):S_qcr s l room k:=by
 obtain ⟨⟨hs,hl,hr⟩,h⟩:=h
 have no:¬ Clean s l→k false:=fun hv=>h false (by simp [hv])
 have go:∀ (m i:Nat),i+m=l.length→Clean s (l.take i)→L0_qcr l room s k (m+1) (i:Int):=by
  intro m
  induction m with
  | zero=>
   intro i hi hn
   rw [List.take_of_length_le (by omega)] at hn
   rw [L0_qcr,T0_qcr]
   exact br_nd (by omega) (h true (by simp [hn]))
  | succ m ih=>
   intro i hi hn
   have hm:l.getD i ((0:Int),(0:Int),false)∈l:=getL_mem (by omega)
   have hb:=hr _ hm
   have next:((l.getD i ((0:Int),(0:Int),false)).2.2=false→(l.getD i ((0:Int),(0:Int),false)).2.1=s.getD (l.getD i ((0:Int),(0:Int),false)).1.toNat 0)→L0_qcr l room s k (m+1) ((i:Int)+1):=fun g=>ih (i+1) (by omega) (by
    rw [takeL (by omega)]
    intro e he hd
    rcases List.mem_append.1 he with c | c
    ·exact hn e c hd
    ·rw [List.mem_singleton.1 c] at hd ⊢; exact g hd)
   rw [L0_qcr,T0_qcr]
   simp only [Int.toNat_natCast]
   refine br_yd (by omega) ⟨⟨by omega,by omega⟩,br_not.2 (br_iff.2 ⟨fun e=>⟨inR (by omega) (by omega),next fun c=>by rw [e] at c; cases c⟩,fun e=>⟨⟨by omega,by omega⟩,⟨by omega,by omega⟩,⟨by omega,by omega⟩,br_bne.2 ⟨fun g=>no fun v=>g (v _ hm e),fun g=>⟨inR (by omega) (by omega),next fun _=>g⟩⟩⟩⟩)⟩
 exact ⟨_,go l.length 0 (by omega) (by intro e he; simp at he)⟩

def G_qdu (a:LI) (d:LT) (e:Int) (k:Bool→Prop):Prop:=br ((a.length:Int)==32) (F_qcp a (-1000:Int) (1000:Int) fun f=>br f (F_qdt d e fun b=>br b (F_qcr a d e fun c=>k c) (k false)) (k false)) (k false)
def S_qdu (a:LI) (b:LT) (c:Int) (k:Bool→Prop):Prop:=G_qdu a b c k
def F_qdu (s:LI) (l:LT) (room:Int) (k:Bool→Prop):Prop:=
 (s.length≤1000000000∧l.length≤1000000000)∧∀ b:Bool,(b=true↔VMem s l room)→k b
theorem F_qdu_S {s:LI} {l:LT} {room:Int} {k:Bool→Prop} (h:F_qdu s l room k):S_qdu s l room k:=by
 obtain ⟨⟨h1,h2⟩,h⟩:=h
 have no:¬ VMem s l room→k false:=fun hv=>h false (by simp [hv])
 refine br_beq.2 ⟨fun e1=>⟨h1,br_dec.2 ⟨fun e2=>⟨h2,fun b hb=>br_iff.2 ⟨fun e3=>?_,fun e3=>no fun v=>by rw [hb.2 v.2.1] at e3; cases e3⟩⟩,fun e2=>no fun v=>e2 v.1.2⟩⟩,fun e1=>no fun v=>e1 (by have:=v.1.1; omega)⟩
 have v:=hb.1 e3
 exact ⟨⟨by omega,h2,fun e he=>(v.1.1 e he).1⟩,fun c hc=>h c ⟨fun g=>⟨⟨by omega,e2⟩,v,hc.1 g⟩,fun g=>hc.2 g.2.2⟩⟩

def G_qct (a:LI) (k:LI→Prop):Prop:=(0+a.length≤1000000000)∧k a
def S_qct (a:LI) (k:LI→Prop):Prop:=G_qct a k
def F_qct (l:LI) (k:LI→Prop):Prop:=l.length≤1000000000∧k l
theorem F_qct_S {l:LI} {k:LI→Prop} (h:F_qct l k):S_qct l k:=⟨by have:=h.1; omega,h.2⟩

def G_qcv_j0 (b:LI) (a:LT) (c:Int) (k:LI→LT→Int→Prop):Prop:=((0+a.length≤1000000000)∧(k b a c)∧(True))∧(True)
def G_qcv (b:LI) (c:LT) (d:Int) (k:LI→LT→Int→Prop):Prop:=(F_qct b fun a=>(G_qcv_j0 a c d k)∧(True))∧(((F_qct b fun a=>G_qcv_j0 a c d k)∧(True))∧(True))
def H_qcv (c:LI) (a:LT) (d:Int) (k:LI→LT→Int→Prop):Prop:=F_qct c fun b=>(0+a.length≤1000000000)∧k b a d
theorem G_qcv_eq (a:LI) (b:LT) (c:Int) (k:LI→LT→Int→Prop):G_qcv a b c k=H_qcv a b c k:=by
 first
 | (simp only [G_qcv,H_qcv,G_qcv_j0,and_self,and_true]; done)
 | (simp only [G_qcv,H_qcv,G_qcv_j0,and_self,and_true,and_self_left,and_assoc]; refine propext ⟨fun h=>?_,fun h=>?_⟩ <;> (repeat (cases ‹_∧_›)) <;> (repeat' (apply And.intro)) <;> assumption)
def S_qcv (a:LI) (b:LT) (c:Int) (k:LI→LT→Int→Prop):Prop:=H_qcv a b c k
def F_qcv (s:LI) (l:LT) (room:Int) (k:LI→LT→Int→Prop):Prop:=(s.length≤1000000000∧l.length≤1000000000)∧k s l room
theorem F_qcv_S {s:LI} {l:LT} {room:Int} {k:LI→LT→Int→Prop} (h:F_qcv s l room k):S_qcv s l room k:=
 ⟨h.1.1,by have:=h.1.2; omega,h.2⟩

def T0_qdf (c:Int) (a:LT) (e:Int) (d:LI) (b:Int) (k:Int→Prop) (B0:Int→Prop):Prop:=br (decide (b < (a.length:Int))) ((0≤b∧b < (a.length:Int))∧br ((List.getD a (Int.toNat b) ((0:Int),(0:Int),false)).1==c) (k b) (InR (b+1)∧B0 (b+1))) (k (-1))
def L0_qdf (d:Int) (a:LT) (c:Int) (b:LI) (k:Int→Prop):Nat→Int→Prop | 0,_=>False | n+1,e=>T0_qdf d a c b e k (L0_qdf d a c b k n)
def G_qdf (a:LI) (b:LT) (c d:Int) (I0:Int→LT→Int→LI→Int→Prop):Prop:=I0 d b c a 0
def S_qdf (a:LI) (b:LT) (c d:Int) (k:Int→Prop):Prop:=G_qdf a b c d (fun d b c a e=>∃ j,L0_qdf d b c a k j e)
def F_qdf (s:LI) (l:LT) (room key:Int) (k:Int→Prop):Prop:=
 l.length≤1000000000∧(∀ i:Nat,i < l.length→(l.getD i ((0:Int),(0:Int),false)).1=key→k (i:Int))∧((∀ e∈l,e.1≠key)→k (-1))
theorem F_qdf_S {s:LI} {l:LT} {room key:Int} {k:Int→Prop} (h:F_qdf s l room key k):S_qdf s l room key k:=by
 obtain ⟨hl,hyes,hno⟩:=h
 have go:∀ (m i:Nat),i+m=l.length→(∀ e∈l.take i,e.1≠key)→L0_qdf key l room s k (m+1) (i:Int):=by
  intro m
  induction m with
  | zero=>
   intro i hi hn
   rw [List.take_of_length_le (by omega)] at hn
   rw [L0_qdf,T0_qdf]
   exact br_nd (by omega) (hno hn)
  | succ m ih=>
   intro i hi hn
   rw [L0_qdf,T0_qdf]
   simp only [Int.toNat_natCast]
   refine br_yd (by omega) ⟨⟨by omega,by omega⟩,br_beq.2 ⟨fun g=>hyes i (by omega) g,fun g=>⟨inR (by omega) (by omega),ih (i+1) (by omega) fun e he=>?_⟩⟩⟩
   rw [takeL (by omega)] at he
   rcases List.mem_append.1 he with c | c
   ·exact hn e c
   ·rw [List.mem_singleton.1 c]; exact g
 exact ⟨_,go l.length 0 (by omega) (by simp)⟩

def G_qcn_j0 (a:LT) (d:Int) (c:LI) (b:Int) (k:LI→LT→Int→Prop):Prop:=((((0+(Int.toNat b))+(List.length (List.take (a.length - (Int.toNat (b+1))) (List.drop (Int.toNat (b+1)) a))))≤a.length)∧((1+(List.length (List.take ((Int.toNat b)+(List.length (List.take (a.length - (Int.toNat (b+1))) (List.drop (Int.toNat (b+1)) a)))) (List.drop 0 (midA a (0+(Int.toNat b)) (List.take (a.length - (Int.toNat (b+1))) (List.drop (Int.toNat (b+1)) a))))))≤1000000000)∧k c (([((List.getD a (Int.toNat b) ((0:Int),(0:Int),false)).1,(List.getD a (Int.toNat b) ((0:Int),(0:Int),false)).2.1,(List.getD a (Int.toNat b) ((0:Int),(0:Int),false)).2.2)]:LT)++(List.take ((Int.toNat b)+(List.length (List.take (a.length - (Int.toNat (b+1))) (List.drop (Int.toNat (b+1)) a)))) (List.drop 0 (midA a (0+(Int.toNat b)) (List.take (a.length - (Int.toNat (b+1))) (List.drop (Int.toNat (b+1)) a)))))) d)∧(True))∧(True)
def G_qcn (f:LI) (g:LT) (h e:Int) (k:LI→LT→Int→Prop):Prop:=F_qcv f g h fun c a b=>F_qdf c a b e fun d=>(0≤e∧e < (c.length:Int))∧br (decide (d≥0)) ((0≤d∧d < (a.length:Int))∧InR (d+1)∧((0≤d∧d≤(a.length:Int))∧((0≤(d+1)∧(d+1)≤(a.length:Int))∧G_qcn_j0 a b c d k)∧(True))∧(((0≤(d+1)∧(d+1)≤(a.length:Int))∧((0≤d∧d≤(a.length:Int))∧G_qcn_j0 a b c d k)∧(True))∧(True))) (br ((a.length:Int)==b) (InR (b - 1)∧(0≤(b - 1)∧(b - 1) < (a.length:Int))∧(0≤(List.getD a (Int.toNat (b - 1)) ((0:Int),(0:Int),false)).1∧(List.getD a (Int.toNat (b - 1)) ((0:Int),(0:Int),false)).1 < (c.length:Int))∧InR (b - 1)∧(0≤(b - 1)∧(b - 1)≤(a.length:Int))∧(1+(List.length (List.take (Int.toNat (b - 1)) (List.drop 0 a)))≤1000000000)∧k (List.set c (Int.toNat (List.getD a (Int.toNat (b - 1)) ((0:Int),(0:Int),false)).1) (List.getD a (Int.toNat (b - 1)) ((0:Int),(0:Int),false)).2.1) (([(e,(List.getD c (Int.toNat e) (0:Int)),false)]:LT)++(List.take (Int.toNat (b - 1)) (List.drop 0 a))) b) ((1+a.length≤1000000000)∧k c (([(e,(List.getD c (Int.toNat e) (0:Int)),false)]:LT)++a) b))
def H_qcn_j0 (a:LT) (d:Int) (c:LI) (b:Int) (k:LI→LT→Int→Prop):Prop:=(((0+(Int.toNat b))+(List.length (List.take (a.length - (Int.toNat (b+1))) (List.drop (Int.toNat (b+1)) a))))≤a.length)∧(1+(List.length (List.take ((Int.toNat b)+(List.length (List.take (a.length - (Int.toNat (b+1))) (List.drop (Int.toNat (b+1)) a)))) (List.drop 0 (midA a (0+(Int.toNat b)) (List.take (a.length - (Int.toNat (b+1))) (List.drop (Int.toNat (b+1)) a))))))≤1000000000)∧k c (([((List.getD a (Int.toNat b) ((0:Int),(0:Int),false)).1,(List.getD a (Int.toNat b) ((0:Int),(0:Int),false)).2.1,(List.getD a (Int.toNat b) ((0:Int),(0:Int),false)).2.2)]:LT)++(List.take ((Int.toNat b)+(List.length (List.take (a.length - (Int.toNat (b+1))) (List.drop (Int.toNat (b+1)) a)))) (List.drop 0 (midA a (0+(Int.toNat b)) (List.take (a.length - (Int.toNat (b+1))) (List.drop (Int.toNat (b+1)) a)))))) d
def H_qcn (f:LI) (g:LT) (h e:Int) (k:LI→LT→Int→Prop):Prop:=F_qcv f g h fun c a b=>F_qdf c a b e fun d=>(0≤e∧e < (c.length:Int))∧br (decide (d≥0)) ((0≤d∧d < (a.length:Int))∧InR (d+1)∧((0≤d∧d≤(a.length:Int))∧(0≤(d+1)∧(d+1)≤(a.length:Int))∧H_qcn_j0 a b c d k)∧((0≤(d+1)∧(d+1)≤(a.length:Int))∧(0≤d∧d≤(a.length:Int))∧H_qcn_j0 a b c d k)) (br ((a.length:Int)==b) (InR (b - 1)∧(0≤(b - 1)∧(b - 1) < (a.length:Int))∧(0≤(List.getD a (Int.toNat (b - 1)) ((0:Int),(0:Int),false)).1∧(List.getD a (Int.toNat (b - 1)) ((0:Int),(0:Int),false)).1 < (c.length:Int))∧InR (b - 1)∧(0≤(b - 1)∧(b - 1)≤(a.length:Int))∧(1+(List.length (List.take (Int.toNat (b - 1)) (List.drop 0 a)))≤1000000000)∧k (List.set c (Int.toNat (List.getD a (Int.toNat (b - 1)) ((0:Int),(0:Int),false)).1) (List.getD a (Int.toNat (b - 1)) ((0:Int),(0:Int),false)).2.1) (([(e,(List.getD c (Int.toNat e) (0:Int)),false)]:LT)++(List.take (Int.toNat (b - 1)) (List.drop 0 a))) b) ((1+a.length≤1000000000)∧k c (([(e,(List.getD c (Int.toNat e) (0:Int)),false)]:LT)++a) b))
theorem G_qcn_eq (a:LI) (b:LT) (c d:Int) (k:LI→LT→Int→Prop):G_qcn a b c d k=H_qcn a b c d k:=by
 first
 | (simp only [G_qcn,H_qcn,G_qcn_j0,H_qcn_j0,and_self,and_true]; done)
 | (simp only [G_qcn,H_qcn,G_qcn_j0,H_qcn_j0,and_self,and_true,and_self_left,and_assoc]; refine propext ⟨fun h=>?_,fun h=>?_⟩ <;> (repeat (cases ‹_∧_›)) <;> (repeat' (apply And.intro)) <;> assumption)
def S_qcn (a:LI) (b:LT) (c d:Int) (k:LI→LT→Int→Prop):Prop:=H_qcn a b c d k
def F_qcn (s:LI) (l:LT) (room key:Int) (k:LI→LT→Int→Prop):Prop:=
 (VMem s l room∧0≤key∧key≤31)∧k (accS s l room key) (readM s l room key) room
theorem F_qcn_S {s:LI} {l:LT} {room key:Int} {k:LI→LT→Int→Prop} (h:F_qcn s l room key k):S_qcn s l room key k:=by
 obtain ⟨⟨v,hk1,hk2⟩,hk⟩:=h
 have hl:=v.len
 have hv:=v.2.1.2
 refine ⟨⟨by omega,by omega⟩,⟨by omega,fun i hi hkey=>⟨⟨by omega,by omega⟩,br_yd (by omega) ?_⟩,fun hno=>⟨⟨by omega,by omega⟩,br_nd (by omega) (br_beq.2 ⟨fun hf=>?_,fun hf=>?_⟩)⟩⟩⟩
 ·have ho:=othL_at v.2.1.1.2 hi hkey
  have hlen:(othL l key).length < l.length:=by rw [ho,List.length_append,List.length_take,List.length_drop]; omega
  have e1:l.take i++l.drop (i+1)=accR l room key:=by unfold accR; rw [if_neg (by omega),ho]
  have e2:accS s l room key=s:=by unfold accS; rw [if_neg (by omega)]
  have e3:=lnM_at v hi hkey
  have hx:(l.drop (i+1)).length=l.length - (i+1):=by rw [List.length_drop]
  have fin:H_qcn_j0 l room s (i:Int) k:=by
   unfold H_qcn_j0
   rw [show ((i:Int)+1).toNat=i+1 by omega]
   rw [show (l.drop (i+1)).take (l.length - (i+1))=l.drop (i+1) from List.take_of_length_le (by omega)]
   rw [show 0+(i:Int).toNat=i by omega,show (i:Int).toNat=i by omega,List.drop_zero,mid_take1 (by omega) rfl,e1]
   refine ⟨by omega,by have:=accR_le l room key; omega,?_⟩
   rw [e2,readM,e3] at hk
   exact hk
  refine ⟨⟨by omega,by omega⟩,inR (by omega) (by omega),⟨⟨by omega,by omega⟩,⟨by omega,by omega⟩,fin⟩,⟨⟨by omega,by omega⟩,⟨by omega,by omega⟩,fin⟩⟩
 ·have ho:othL l key=l:=othL_out hno
  have e3:lnM s l key=(key,s.getD key.toNat 0,false):=lnM_out hno
  have hm:l.getD (room - 1).toNat ((0:Int),(0:Int),false)=lastL l:=by unfold lastL; rw [show (room - 1).toNat=l.length - 1 by omega]
  have hr:=(v.2.1.1.1 _ (lastL_mem (l:=l) (by omega))).1
  rw [hm]
  refine ⟨inR (by omega) (by omega),⟨by omega,by omega⟩,⟨by omega,by omega⟩,inR (by omega) (by omega),⟨by omega,by omega⟩,by rw [List.length_take,List.length_drop]; omega,?_⟩
  unfold accS readM accR at hk
  rw [ho,if_pos hf,if_pos hf,e3] at hk
  rw [List.drop_zero,show (room - 1).toNat=l.length - 1 by omega]
  exact hk
 ·have ho:othL l key=l:=othL_out hno
  have e3:lnM s l key=(key,s.getD key.toNat 0,false):=lnM_out hno
  refine ⟨by omega,?_⟩
  unfold accS readM accR at hk
  rw [ho,if_neg hf,if_neg hf,e3] at hk
  exact hk

def G_qcf (e:LI) (f:LT) (g i:Int) (k:LI→LT→Int→Int→Bool→Prop):Prop:=F_qdu e f g fun c=>br (!c) (k ([]:LI) ([]:LT) 0 0 false) (F_qdc i (0:Int) (31:Int) fun h=>br (!h) (k ([]:LI) ([]:LT) 0 0 false) (F_qcn e f g i fun b a d=>(0≤(0:Int)∧0 < (a.length:Int))∧(k b a d (List.getD a 0 ((0:Int),(0:Int),false)).2.1 true)∧(True)))
def H_qcf (e:LI) (f:LT) (g i:Int) (k:LI→LT→Int→Int→Bool→Prop):Prop:=F_qdu e f g fun c=>br (!c) (k ([]:LI) ([]:LT) 0 0 false) (F_qdc i (0:Int) (31:Int) fun h=>br (!h) (k ([]:LI) ([]:LT) 0 0 false) (F_qcn e f g i fun b a d=>(0≤(0:Int)∧0 < (a.length:Int))∧k b a d (List.getD a 0 ((0:Int),(0:Int),false)).2.1 true))
theorem G_qcf_eq (a:LI) (b:LT) (c d:Int) (k:LI→LT→Int→Int→Bool→Prop):G_qcf a b c d k=H_qcf a b c d k:=by
 first
 | (simp only [G_qcf,H_qcf,and_self,and_true]; done)
 | (simp only [G_qcf,H_qcf,and_self,and_true,and_self_left,and_assoc]; refine propext ⟨fun h=>?_,fun h=>?_⟩ <;> (repeat (cases ‹_∧_›)) <;> (repeat' (apply And.intro)) <;> assumption)
def S_qcf (a:LI) (b:LT) (c d:Int) (k:LI→LT→Int→Int→Bool→Prop):Prop:=H_qcf a b c d k
def F_qcf (s:LI) (l:LT) (room key:Int) (k:LI→LT→Int→Int→Bool→Prop):Prop:=
 (s.length≤1000000000∧l.length≤1000000000)∧(VMem s l room∧0≤key∧key≤31→k (accS s l room key) (readM s l room key) room (valM s l key) true)∧(¬ (VMem s l room∧0≤key∧key≤31)→k [] [] 0 0 false)
theorem F_qcf_S {s:LI} {l:LT} {room key:Int} {k:LI→LT→Int→Int→Bool→Prop} (h:F_qcf s l room key k):S_qcf s l room key k:=by
 obtain ⟨hl,hyes,hno⟩:=h
 refine ⟨hl,fun b hb=>br_not.2 (br_iff.2 ⟨fun e=>br_not.2 (br_dec.2 ⟨fun g=>?_,fun g=>hno fun v=>g v.2⟩),fun e=>hno fun v=>by rw [hb.2 v.1] at e; cases e⟩)⟩
 have v:=hb.1 e
 exact ⟨⟨v,g⟩,⟨by omega,by unfold readM; rw [List.length_cons]; omega⟩,hyes ⟨v,g⟩⟩

def G_qcm (e:LI) (f:LT) (g l h:Int) (k:LI→LT→Int→Bool→Prop):Prop:=F_qdu e f g fun b=>br (!b) (k ([]:LI) ([]:LT) 0 false) (F_qdc l (0:Int) (31:Int) fun i=>br (!i) (k ([]:LI) ([]:LT) 0 false) (F_qdc h (-1000:Int) (1000:Int) fun j=>br (!j) (k ([]:LI) ([]:LT) 0 false) (F_qcn e f g l fun c a d=>(0≤(0:Int)∧0 < (a.length:Int))∧k c (List.set a 0 (l,h,true)) d true)))
def S_qcm (a:LI) (b:LT) (c e d:Int) (k:LI→LT→Int→Bool→Prop):Prop:=G_qcm a b c e d k
def F_qcm (s:LI) (l:LT) (room key value:Int) (k:LI→LT→Int→Bool→Prop):Prop:=
 (s.length≤1000000000∧l.length≤1000000000)∧(VMem s l room∧(0≤key∧key≤31)∧-1000≤value∧value≤1000→k (accS s l room key) (wrtM l room key value) room true)∧(¬ (VMem s l room∧(0≤key∧key≤31)∧-1000≤value∧value≤1000)→k [] [] 0 false)
theorem F_qcm_S {s:LI} {l:LT} {room key value:Int} {k:LI→LT→Int→Bool→Prop} (h:F_qcm s l room key value k):S_qcm s l room key value k:=by
 obtain ⟨hl,hyes,hno⟩:=h
 refine ⟨hl,fun b hb=>br_not.2 (br_iff.2 ⟨fun e=>br_not.2 (br_dec.2 ⟨fun g=>br_not.2 (br_dec.2 ⟨fun g2=>?_,fun g2=>hno fun v=>g2 v.2.2⟩),fun g=>hno fun v=>g v.2.1⟩),fun e=>hno fun v=>by rw [hb.2 v.1] at e; cases e⟩)⟩
 have v:=hb.1 e
 exact ⟨⟨v,g⟩,⟨by omega,by unfold readM; rw [List.length_cons]; omega⟩,hyes ⟨v,g,g2⟩⟩

def G_qdv (b:LI) (k:Bool→Prop):Prop:=br (decide ((b.length:Int)≤24)) (F_qcp b (0:Int) (31:Int) fun a=>k a) (k false)
def S_qdv (a:LI) (k:Bool→Prop):Prop:=G_qdv a k
def F_qdv (t:LI) (k:Bool→Prop):Prop:=∀ b:Bool,(b=true↔VTrace t)→k b
theorem F_qdv_S {t:LI} {k:Bool→Prop} (h:F_qdv t k):S_qdv t k:=
 br_dec.2 ⟨fun h1=>⟨by omega,h _ (by simp only [decide_eq_true_eq]; exact ⟨fun h2=>⟨by omega,h2⟩,fun v=>v.2⟩)⟩,fun h1=>h false (by simp only [Bool.false_eq_true,false_iff]; exact fun v=>h1 (by have:=v.1; omega))⟩

def T0_qdl (b:LI) (c a:Int) (k:Int→Prop) (B0:Int→Prop):Prop:=br (decide (a < (b.length:Int))) ((0≤a∧a < (b.length:Int))∧br ((List.getD b (Int.toNat a) (0:Int))==c) (k a) (InR (a+1)∧B0 (a+1))) (k (-1))
def L0_qdl (a:LI) (b:Int) (k:Int→Prop):Nat→Int→Prop | 0,_=>False | n+1,c=>T0_qdl a b c k (L0_qdl a b k n)
def G_qdl (a:LI) (b:Int) (I0:LI→Int→Int→Prop):Prop:=I0 a b 0
def S_qdl (a:LI) (b:Int) (k:Int→Prop):Prop:=G_qdl a b (fun a b c=>∃ j,L0_qdl a b k j c)
def F_qdl (l:LI) (n:Int) (k:Int→Prop):Prop:=l.length≤1000000000∧k (plc l n)
theorem F_qdl_S {l:LI} {n:Int} {k:Int→Prop} (h:F_qdl l n k):S_qdl l n k:=by
 obtain ⟨hl,hk⟩:=h
 have key:∀ (r:LI) (i:Nat),l.drop i=r→plcF r n i=plc l n→L0_qdl l n k (r.length+1) (i:Int):=by
  intro r
  induction r with
  | nil=>
   intro i hd he
   have:=drop_nil' hd
   rw [L0_qdl,T0_qdl]
   simp only [br_dec]
   exact ⟨fun h=>by omega,fun _=>by rw [show (-1:Int)=plc l n from he]; exact hk⟩
  | cons x r ih=>
   intro i hd he
   obtain ⟨h1,h2,_,h3,_⟩:=drop_cons' hd
   rw [List.length_cons,L0_qdl,T0_qdl]
   simp only [br_dec,br_beq,Int.toNat_natCast,h2]
   refine ⟨fun _=>⟨⟨by omega,by omega⟩,fun hx=>?_,fun hx=>⟨inR (by omega) (by omega),?_⟩⟩,fun h=>by omega⟩
   ·simp only [plcF,if_pos hx] at he; rw [he]; exact hk
   ·simp only [plcF,if_neg hx] at he; exact ih (i+1) h3 he
 exact ⟨_,key l 0 rfl rfl⟩

def G_qdw (a:LI) (b:Int) (k:LI→Prop):Prop:=(0≤b∧b≤(a.length:Int))∧InR (b+1)∧(0≤(b+1)∧(b+1)≤(a.length:Int))∧(((0+(List.length (List.take (Int.toNat b) a))≤1000000000)∧(((List.length (List.take (Int.toNat b) a))+(List.length (List.drop (Int.toNat (b+1)) a))≤1000000000)∧k ((List.take (Int.toNat b) a)++(List.drop (Int.toNat (b+1)) a)))∧(True))∧(True))∧(True)
def H_qdw (a:LI) (b:Int) (k:LI→Prop):Prop:=(0≤b∧b≤(a.length:Int))∧InR (b+1)∧(0≤(b+1)∧(b+1)≤(a.length:Int))∧(0+(List.length (List.take (Int.toNat b) a))≤1000000000)∧((List.length (List.take (Int.toNat b) a))+(List.length (List.drop (Int.toNat (b+1)) a))≤1000000000)∧k ((List.take (Int.toNat b) a)++(List.drop (Int.toNat (b+1)) a))
theorem G_qdw_eq (a:LI) (b:Int) (k:LI→Prop):G_qdw a b k=H_qdw a b k:=by
 first
 | (simp only [G_qdw,H_qdw,and_self,and_true]; done)
 | (simp only [G_qdw,H_qdw,and_self,and_true,and_self_left,and_assoc]; refine propext ⟨fun h=>?_,fun h=>?_⟩ <;> (repeat (cases ‹_∧_›)) <;> (repeat' (apply And.intro)) <;> assumption)
def S_qdw (a:LI) (b:Int) (k:LI→Prop):Prop:=H_qdw a b k
def F_qdw (l:LI) (at1:Int) (k:LI→Prop):Prop:=(0≤at1∧at1 < l.length∧l.length≤1000000000)∧k (l.take at1.toNat++l.drop (at1.toNat+1))
theorem F_qdw_S {l:LI} {at1:Int} {k:LI→Prop} (h:F_qdw l at1 k):S_qdw l at1 k:=by
 obtain ⟨⟨h1,h2,h3⟩,hk⟩:=h
 have e:(at1+1).toNat=at1.toNat+1:=by omega
 refine ⟨⟨by omega,by omega⟩,inR (by omega) (by omega),⟨by omega,by omega⟩,by simp; omega,by simp; omega,?_⟩
 rw [e]; exact hk

def G_qdo (a:LI) (c b:Int) (k:LI→Bool→Prop):Prop:=F_qdl a b fun d=>br (decide (d≥0)) (F_qdw a d fun e=>(1+e.length≤1000000000)∧k (([b]:LI)++e) true) ((1+a.length≤1000000000)∧(0≤(if ((List.length (([b]:LI)++a)):Int) < c then ((List.length (([b]:LI)++a)):Int) else c)∧(if ((List.length (([b]:LI)++a)):Int) < c then ((List.length (([b]:LI)++a)):Int) else c)≤((List.length (([b]:LI)++a)):Int))∧k (List.take (Int.toNat (if ((List.length (([b]:LI)++a)):Int) < c then ((List.length (([b]:LI)++a)):Int) else c)) (List.drop 0 (([b]:LI)++a))) false)
def S_qdo (a:LI) (b c:Int) (k:LI→Bool→Prop):Prop:=G_qdo a b c k
def F_qdo (l:LI) (room key:Int) (k:LI→Bool→Prop):Prop:=VKeys l room∧k (recM l room key) (decide (key∈l))
theorem F_qdo_S {l:LI} {room key:Int} {k:LI→Bool→Prop} (h:F_qdo l room key k):S_qdo l room key k:=by
 obtain ⟨⟨v1,v2,v3,v4,v5⟩,hk⟩:=h
 refine ⟨by omega,br_dec.2 ⟨fun hp=>?_,fun hp=>?_⟩⟩
 ·have hm:=plc_ge.1 hp
  obtain ⟨j,j1,j2,_,j3⟩:=plc_pos hm
  rw [j3]
  refine ⟨⟨by omega,by omega,by omega⟩,?_⟩
  rw [Int.toNat_natCast,rmK_erase v5 j2]
  have:=rmK_len v5 hm
  refine ⟨by omega,?_⟩
  rw [recM_hit v5 v3 hm,decide_eq_true hm] at hk; exact hk
 ·have hm:key ∉ l:=fun e=>hp (plc_ge.2 e)
  refine ⟨by omega,⟨?_,?_⟩,?_⟩
  ·split <;> omega
  ·split <;> omega
  ·rw [recM_miss hm,decide_eq_false hm] at hk
   rw [List.drop_zero,take_min1]; exact hk

def G_qds (a:Bool) (k:Int→Prop):Prop:=br a (k 1) (k 0)
def S_qds (a:Bool) (k:Int→Prop):Prop:=G_qds a k
def F_qds (b:Bool) (k:Int→Prop):Prop:=k (toI b)
theorem F_qds_S {b:Bool} {k:Int→Prop} (h:F_qds b k):S_qds b k:=by
 cases b <;> exact h

def T0_qck (g:Int) (h:LI) (f b:Int) (a:LI) (k:LI→Int→Prop) (B0:Int→Int→LI→Prop):Prop:=br (decide (b < (h.length:Int))) ((0≤b∧b < (h.length:Int))∧F_qdo a g (List.getD h (Int.toNat b) (0:Int)) fun d e=>F_qds e fun c=>InR (f+c)∧InR (b+1)∧B0 (f+c) (b+1) d) ((0+a.length≤1000000000)∧k a f)
def L0_qck (a:Int) (c:LI) (k:LI→Int→Prop):Nat→Int→Int→LI→Prop | 0,_,_,_=>False | n+1,d,e,b=>T0_qck a c d e b k (L0_qck a c k n)
def G_qck (d:LI) (c:Int) (k:LI→Int→Prop) (I0:Int→LI→Int→Int→LI→Prop):Prop:=F_qdv d fun a=>br (!a) (k ([]:LI) (-1)) (F_qdc c (1:Int) (8:Int) fun b=>br (!b) (k ([]:LI) (-1)) (I0 c d 0 0 ([]:LI)))
def S_qck (c:LI) (a:Int) (k:LI→Int→Prop):Prop:=G_qck c a k (fun a c d e b=>∃ j,L0_qck a c k j d e b)
def F_qck (t:LI) (room:Int) (k:LI→Int→Prop):Prop:=
 ((VTrace t∧1≤room∧room≤8)→k (runR room t [] 0).1 (runR room t [] 0).2)∧(¬ (VTrace t∧1≤room∧room≤8)→k [] (-1))
theorem F_qck_S {t:LI} {room:Int} {k:LI→Int→Prop} (h:F_qck t room k):S_qck t room k:=by
 obtain ⟨hyes,hno⟩:=h
 intro b hb
 rw [br_not,br_iff]
 refine ⟨fun e=>br_not.2 (br_dec.2 ⟨fun hr=>?_,fun hr=>hno fun w=>hr w.2⟩),fun e=>hno fun v=>by rw [hb.2 v.1] at e; cases e⟩
 have v:=hb.1 e
 have hk:=hyes ⟨v,hr⟩
 have t2:=v.2
 have t1:=v.1
 have key:∀ (r:LI) (i:Nat) (l:LI) (n:Int),t.drop i=r→VKeys l room→0≤n→n≤i→k (runR room r l n).1 (runR room r l n).2→L0_qck room t k (r.length+1) n (i:Int) l:=by
  intro r
  induction r with
  | nil=>
   intro i l n hdr v n0 n1 hk
   have:=drop_nil' hdr
   have:=vkeys_len v
   rw [L0_qck,T0_qck]
   simp only [br_dec]
   exact ⟨fun h=>by omega,fun _=>⟨by omega,hk⟩⟩
  | cons x r ih=>
   intro i l n hdr v n0 n1 hk
   obtain ⟨h1,h2,h5,h3,h4⟩:=drop_cons' hdr
   have hx:=t2 x (List.mem_of_getElem? h5)
   rw [List.length_cons,L0_qck,T0_qck]
   simp only [br_dec,Int.toNat_natCast,h2]
   have:=toI_01 (decide (x∈l))
   exact ⟨fun _=>⟨⟨by omega,by omega⟩,v,inR (by omega) (by omega),inR (by omega) (by omega),ih (i+1) _ _ h3 (recM_valid v hx) (by omega) (by omega) hk⟩,fun h=>by omega⟩
 exact ⟨_,key t 0 [] 0 rfl (keys0 hr) (by omega) (by omega) hk⟩

def G_qde (b:LI) (c:Int) (k:Bool→Prop):Prop:=F_qdl b c fun a=>k (decide (a≥0))
def S_qde (a:LI) (b:Int) (k:Bool→Prop):Prop:=G_qde a b k
def F_qde (l:LI) (n:Int) (k:Bool→Prop):Prop:=l.length≤1000000000∧k (decide (n∈l))
theorem F_qde_S {l:LI} {n:Int} {k:Bool→Prop} (h:F_qde l n k):S_qde l n k:=by
 refine ⟨h.1,?_⟩
 have:decide (plc l n≥0)=decide (n∈l):=decide_eq_decide.2 plc_ge
 show k (decide (plc l n≥0))
 rw [this]; exact h.2

def G_qcy (a:LI) (c b:Int) (k:LI→Bool→Prop):Prop:=F_qde a b fun d=>br d (k a true) ((0+a.length≤1000000000)∧(a.length+1≤1000000000)∧InR (((List.length (a++([b]:LI))):Int) - c)∧(0≤(if 0 < (((List.length (a++([b]:LI))):Int) - c) then (((List.length (a++([b]:LI))):Int) - c) else 0)∧(if 0 < (((List.length (a++([b]:LI))):Int) - c) then (((List.length (a++([b]:LI))):Int) - c) else 0)≤((List.length (a++([b]:LI))):Int))∧k (List.take ((List.length (a++([b]:LI))) - (Int.toNat (if 0 < (((List.length (a++([b]:LI))):Int) - c) then (((List.length (a++([b]:LI))):Int) - c) else 0))) (List.drop (Int.toNat (if 0 < (((List.length (a++([b]:LI))):Int) - c) then (((List.length (a++([b]:LI))):Int) - c) else 0)) (a++([b]:LI)))) false)
def S_qcy (a:LI) (b c:Int) (k:LI→Bool→Prop):Prop:=G_qcy a b c k
def F_qcy (l:LI) (room key:Int) (k:LI→Bool→Prop):Prop:=VKeys l room∧k (firM l room key) (decide (key∈l))
theorem F_qcy_S {l:LI} {room key:Int} {k:LI→Bool→Prop} (h:F_qcy l room key k):S_qcy l room key k:=by
 obtain ⟨⟨v1,v2,v3,v4,v5⟩,hk⟩:=h
 unfold firM at hk
 refine ⟨by omega,br_dec.2 ⟨fun hm=>?_,fun hm=>?_⟩⟩
 ·rw [if_pos hm,decide_eq_true hm] at hk; exact hk
 ·rw [if_neg hm,decide_eq_false hm] at hk
  have hlen:(l++[key]).length=l.length+1:=by simp
  have hX:(if 0 < (((List.length (l++([key]:LI))):Int) - room) then (((List.length (l++([key]:LI))):Int) - room) else 0).toNat=l.length+1 - room.toNat:=by
   rw [hlen]; split <;> omega
  refine ⟨by omega,by omega,inR (by omega) (by omega),⟨?_,?_⟩,?_⟩
  ·split <;> omega
  ·split <;> omega
  ·rw [hX,List.take_of_length_le (by simp)]; exact hk

def T0_qch (g:Int) (h a:LI) (f b:Int) (k:LI→Int→Prop) (B0:LI→Int→Int→Prop):Prop:=br (decide (b < (h.length:Int))) ((0≤b∧b < (h.length:Int))∧F_qcy a g (List.getD h (Int.toNat b) (0:Int)) fun d e=>F_qds e fun c=>InR (f+c)∧InR (b+1)∧B0 d (f+c) (b+1)) ((0+a.length≤1000000000)∧k a f)
def L0_qch (a:Int) (c:LI) (k:LI→Int→Prop):Nat→LI→Int→Int→Prop | 0,_,_,_=>False | n+1,b,d,e=>T0_qch a c b d e k (L0_qch a c k n)
def G_qch (d:LI) (c:Int) (k:LI→Int→Prop) (I0:Int→LI→LI→Int→Int→Prop):Prop:=F_qdv d fun a=>br (!a) (k ([]:LI) (-1)) (F_qdc c (1:Int) (8:Int) fun b=>br (!b) (k ([]:LI) (-1)) (I0 c d ([]:LI) 0 0))
def S_qch (c:LI) (a:Int) (k:LI→Int→Prop):Prop:=G_qch c a k (fun a c b d e=>∃ j,L0_qch a c k j b d e)
def F_qch (t:LI) (room:Int) (k:LI→Int→Prop):Prop:=
 ((VTrace t∧1≤room∧room≤8)→k (runF room t [] 0).1 (runF room t [] 0).2)∧(¬ (VTrace t∧1≤room∧room≤8)→k [] (-1))
theorem F_qch_S {t:LI} {room:Int} {k:LI→Int→Prop} (h:F_qch t room k):S_qch t room k:=by
 obtain ⟨hyes,hno⟩:=h
 intro b hb
 rw [br_not,br_iff]
 refine ⟨fun e=>br_not.2 (br_dec.2 ⟨fun hr=>?_,fun hr=>hno fun w=>hr w.2⟩),fun e=>hno fun v=>by rw [hb.2 v.1] at e; cases e⟩
 have v:=hb.1 e
 have hk:=hyes ⟨v,hr⟩
 have t2:=v.2
 have t1:=v.1
 have key:∀ (r:LI) (i:Nat) (l:LI) (n:Int),t.drop i=r→VKeys l room→0≤n→n≤i→k (runF room r l n).1 (runF room r l n).2→L0_qch room t k (r.length+1) l n (i:Int):=by
  intro r
  induction r with
  | nil=>
   intro i l n hdr v n0 n1 hk
   have:=drop_nil' hdr
   have:=vkeys_len v
   rw [L0_qch,T0_qch]
   simp only [br_dec]
   exact ⟨fun h=>by omega,fun _=>⟨by omega,hk⟩⟩
  | cons x r ih=>
   intro i l n hdr v n0 n1 hk
   obtain ⟨h1,h2,h5,h3,h4⟩:=drop_cons' hdr
   have hx:=t2 x (List.mem_of_getElem? h5)
   rw [List.length_cons,L0_qch,T0_qch]
   simp only [br_dec,Int.toNat_natCast,h2]
   have:=toI_01 (decide (x∈l))
   exact ⟨fun _=>⟨⟨by omega,by omega⟩,v,inR (by omega) (by omega),inR (by omega) (by omega),ih (i+1) _ _ h3 (firM_valid v hx) (by omega) (by omega) hk⟩,fun h=>by omega⟩
 exact ⟨_,key t 0 [] 0 rfl (keys0 hr) (by omega) (by omega) hk⟩

def G_qcs_j0 (c d:Int) (a:List Bool) (b:LI) (k:Int→LI→List Bool→Int→Prop):Prop:=((0+a.length≤1000000000)∧(k d b a c)∧(True))∧(True)
def G_qcs (b:Int) (c:LI) (d:List Bool) (e:Int) (k:Int→LI→List Bool→Int→Prop):Prop:=(F_qct c fun a=>(G_qcs_j0 e b d a k)∧(True))∧(((F_qct c fun a=>G_qcs_j0 e b d a k)∧(True))∧(True))
def H_qcs (c:Int) (d:LI) (a:List Bool) (e:Int) (k:Int→LI→List Bool→Int→Prop):Prop:=F_qct d fun b=>(0+a.length≤1000000000)∧k c b a e
theorem G_qcs_eq (a:Int) (b:LI) (c:List Bool) (d:Int) (k:Int→LI→List Bool→Int→Prop):G_qcs a b c d k=H_qcs a b c d k:=by
 first
 | (simp only [G_qcs,H_qcs,G_qcs_j0,and_self,and_true]; done)
 | (simp only [G_qcs,H_qcs,G_qcs_j0,and_self,and_true,and_self_left,and_assoc]; refine propext ⟨fun h=>?_,fun h=>?_⟩ <;> (repeat (cases ‹_∧_›)) <;> (repeat' (apply And.intro)) <;> assumption)
def S_qcs (a:Int) (b:LI) (c:List Bool) (d:Int) (k:Int→LI→List Bool→Int→Prop):Prop:=H_qcs a b c d k
def F_qcs (room:Int) (keys:LI) (used:List Bool) (hand:Int) (k:Int→LI→List Bool→Int→Prop):Prop:=(keys.length≤1000000000∧used.length≤1000000000)∧k room keys used hand
theorem F_qcs_S {room:Int} {keys:LI} {used:List Bool} {hand:Int} {k:Int→LI→List Bool→Int→Prop} (h:F_qcs room keys used hand k):S_qcs room keys used hand k:=
 ⟨h.1.1,by have:=h.1.2; omega,h.2⟩

def T0_qdr (c:LI) (a e b:Int) (d:List Bool) (k:Int→LI→List Bool→Int→Bool→Prop) (B0:Int→List Bool→Prop):Prop:=(0≤b∧b < (d.length:Int))∧br (List.getD d (Int.toNat b) false) ((0≤b∧b < (d.length:Int))∧InR (b+1)∧(a≠0)∧B0 (Int.tmod (b+1) a) (List.set d (Int.toNat b) false)) ((0≤b∧b < (c.length:Int))∧InR (b+1)∧(a≠0)∧k a (List.set c (Int.toNat b) e) d (Int.tmod (b+1) a) false)
def L0_qdr (a:LI) (b c:Int) (k:Int→LI→List Bool→Int→Bool→Prop):Nat→Int→List Bool→Prop | 0,_,_=>False | n+1,d,e=>T0_qdr a b c d e k (L0_qdr a b c k n)
def G_qdr (j:Int) (h:LI) (f:List Bool) (l i:Int) (k:Int→LI→List Bool→Int→Bool→Prop) (I0:LI→Int→Int→Int→List Bool→Prop):Prop:=F_qcs j h f l fun a b c d=>F_qdl b i fun e=>br (decide (e≥0)) ((0≤e∧e < (c.length:Int))∧k a b (List.set c (Int.toNat e) true) d true) (br (decide ((b.length:Int) < a)) (F_qct h fun g=>(g.length+1≤1000000000)∧(0+f.length≤1000000000)∧(f.length+1≤1000000000)∧k a (g++([i]:LI)) (f++([false]:List Bool)) d false) (I0 b a i d c))
def S_qdr (d:Int) (e:LI) (f:List Bool) (g c:Int) (k:Int→LI→List Bool→Int→Bool→Prop):Prop:=G_qdr d e f g c k (fun a b c h i=>∃ j,L0_qdr a b c k j h i)
def F_qdr (room:Int) (keys:LI) (used:List Bool) (hand key:Int) (k:Int→LI→List Bool→Int→Bool→Prop):Prop:=
 VClock room keys used hand∧k room (tickM room keys used hand key).1 (tickM room keys used hand key).2.1 (tickM room keys used hand key).2.2.1 (tickM room keys used hand key).2.2.2
theorem F_qdr_S {room:Int} {keys:LI} {used:List Bool} {hand key:Int} {k:Int→LI→List Bool→Int→Bool→Prop} (h:F_qdr room keys used hand key k):S_qdr room keys used hand key k:=by
 obtain ⟨v,hk⟩:=h
 have hv:=v
 obtain ⟨⟨v1,v2,v3,v4,v5⟩,v6,v7,v8⟩:=v
 have key1:(keys.length:Int)=room→∀ (f:Nat) (u:List Bool) (h:Nat),u.length=keys.length→h < u.length→u.count true < f→
   k room (keys.set (sweep f u h).2 key) (sweep f u h).1 (((sweep f u h).2+1) % keys.length:Nat) false→L0_qdr keys room key k f (h:Int) u:=by
  intro hr f
  induction f with
  | zero=>intro u h _ _ h3; omega
  | succ f ih=>
   intro u h h1 h2 h3 h4
   unfold sweep at h4
   rw [L0_qdr,T0_qdr]
   simp only [br_iff,Int.toNat_natCast]
   refine ⟨⟨by omega,by omega⟩,fun hu=>⟨⟨by omega,by omega⟩,inR (by omega) (by omega),by omega,?_⟩,fun hu=>⟨⟨by omega,by omega⟩,inR (by omega) (by omega),by omega,?_⟩⟩
   ·rw [if_pos hu] at h4
    have e:Int.tmod ((h:Int)+1) room=(((h+1) % u.length:Nat):Int):=by rw [← hr,tmod_next,h1]
    rw [e]
    have:=count_clear hu
    refine ih _ _ (by simp [h1]) (by rw [List.length_set]; exact Nat.mod_lt _ (by omega)) (by omega) h4
   ·rw [if_neg (by rw [hu]; simp)] at h4
    have e:Int.tmod ((h:Int)+1) room=(((h+1) % keys.length:Nat):Int):=by rw [← hr,tmod_next]
    rw [e]; exact h4
 refine ⟨⟨by omega,by omega⟩,by omega,br_dec.2 ⟨fun hp=>?_,fun hp=>br_dec.2 ⟨fun hl=>?_,fun hl=>?_⟩⟩⟩
 ·have hm:=plc_ge.1 hp
  unfold tickM at hk
  rw [if_pos hm] at hk
  obtain ⟨j,j1,_,_,j2⟩:=plc_pos hm
  exact ⟨⟨by omega,by omega⟩,hk⟩
 ·have hm:key ∉ keys:=fun e=>hp (plc_ge.2 e)
  unfold tickM at hk
  rw [if_neg hm,if_pos hl] at hk
  exact ⟨by omega,by omega,by omega,by omega,hk⟩
 ·have hm:key ∉ keys:=fun e=>hp (plc_ge.2 e)
  unfold tickM at hk
  rw [if_neg hm,if_neg hl] at hk
  obtain ⟨w1,w2⟩:=v8 (by omega)
  refine ⟨used.length+1,?_⟩
  have:=key1 (by omega) (used.length+1) used hand.toNat v6 (by omega) (Nat.lt_succ_of_le List.count_le_length) hk
  rwa [Int.toNat_of_nonneg w1] at this

def T0_qcg (n:LI) (m a:Int) (h i:Int) (j:LI) (l:List Bool) (k:Int→LI→List Bool→Int→Int→Prop) (B0:Int→Int→Int→Int→LI→List Bool→Prop):Prop:=br (decide (a < (n.length:Int))) ((0≤a∧a < (n.length:Int))∧((F_qdr h j l i (List.getD n (Int.toNat a) (0:Int)) fun c d e f g=>(F_qds g fun b=>InR (m+b)∧InR (a+1)∧B0 (m+b) (a+1) c f d e)∧(True))∧(True))∧(True)) (k h j l i m)
def U0_qcg (n:LI) (m a:Int) (h i:Int) (j:LI) (l:List Bool) (k:Int→LI→List Bool→Int→Int→Prop) (B0:Int→Int→Int→Int→LI→List Bool→Prop):Prop:=br (decide (a < (n.length:Int))) ((0≤a∧a < (n.length:Int))∧F_qdr h j l i (List.getD n (Int.toNat a) (0:Int)) fun c d e f g=>F_qds g fun b=>InR (m+b)∧InR (a+1)∧B0 (m+b) (a+1) c f d e) (k h j l i m)
theorem T0_qcg_eq (g:LI) (e f:Int) (a b:Int) (c:LI) (d:List Bool) (k:Int→LI→List Bool→Int→Int→Prop) (B0:Int→Int→Int→Int→LI→List Bool→Prop):T0_qcg g e f a b c d k B0=U0_qcg g e f a b c d k B0:=by
 first
 | (simp only [T0_qcg,U0_qcg,and_self,and_true]; done)
 | (simp only [T0_qcg,U0_qcg,and_self,and_true,and_self_left,and_assoc]; refine propext ⟨fun h=>?_,fun h=>?_⟩ <;> (repeat (cases ‹_∧_›)) <;> (repeat' (apply And.intro)) <;> assumption)
def L0_qcg (e:LI) (k:Int→LI→List Bool→Int→Int→Prop):Nat→Int→Int→Int→Int→LI→List Bool→Prop | 0,_,_,_,_,_,_=>False | n+1,f,g,a,b,c,d=>U0_qcg e f g a b c d k (L0_qcg e k n)
def G_qcg (d:LI) (c:Int) (k:Int→LI→List Bool→Int→Int→Prop) (I0:LI→Int→Int→Int→Int→LI→List Bool→Prop):Prop:=F_qdv d fun a=>br (!a) (k 0 ([]:LI) ([]:List Bool) 0 (-1)) (F_qdc c (1:Int) (8:Int) fun b=>br (!b) (k 0 ([]:LI) ([]:List Bool) 0 (-1)) (I0 d 0 0 c 0 ([]:LI) ([]:List Bool)))
def S_qcg (f:LI) (a:Int) (k:Int→LI→List Bool→Int→Int→Prop):Prop:=G_qcg f a k (fun f g h b c d e=>∃ j,L0_qcg f k j g h b c d e)
def F_qcg (t:LI) (room:Int) (k:Int→LI→List Bool→Int→Int→Prop):Prop:=
 ((VTrace t∧1≤room∧room≤8)→k room (runC room t [] [] 0 0).1 (runC room t [] [] 0 0).2.1 (runC room t [] [] 0 0).2.2.1 (runC room t [] [] 0 0).2.2.2)∧
 (¬ (VTrace t∧1≤room∧room≤8)→k 0 [] [] 0 (-1))
theorem F_qcg_S {t:LI} {room:Int} {k:Int→LI→List Bool→Int→Int→Prop} (h:F_qcg t room k):S_qcg t room k:=by
 obtain ⟨hyes,hno⟩:=h
 intro b hb
 rw [br_not,br_iff]
 refine ⟨fun e=>br_not.2 (br_dec.2 ⟨fun hr=>?_,fun hr=>hno fun w=>hr w.2⟩),fun e=>hno fun v=>by rw [hb.2 v.1] at e; cases e⟩
 have v:=hb.1 e
 have hk:=hyes ⟨v,hr⟩
 have t2:=v.2
 have t1:=v.1
 have key:∀ (r:LI) (i:Nat) (ks:LI) (us:List Bool) (hd n:Int),t.drop i=r→VClock room ks us hd→0≤n→n≤i→
   k room (runC room r ks us hd n).1 (runC room r ks us hd n).2.1 (runC room r ks us hd n).2.2.1 (runC room r ks us hd n).2.2.2→L0_qcg t k (r.length+1) n (i:Int) room hd ks us:=by
  intro r
  induction r with
  | nil=>
   intro i ks us hd n hdr v n0 n1 hk
   have:=drop_nil' hdr
   rw [L0_qcg,U0_qcg]
   simp only [br_dec]
   exact ⟨fun h=>by omega,fun _=>hk⟩
  | cons x r ih=>
   intro i ks us hd n hdr v n0 n1 hk
   obtain ⟨h1,h2,h5,h3,h4⟩:=drop_cons' hdr
   have hx:=t2 x (List.mem_of_getElem? h5)
   rw [List.length_cons,L0_qcg,U0_qcg]
   simp only [br_dec,Int.toNat_natCast,h2]
   have:=toI_01 (tickM room ks us hd x).2.2.2
   exact ⟨fun _=>⟨⟨by omega,by omega⟩,v,inR (by omega) (by omega),inR (by omega) (by omega),ih (i+1) _ _ _ _ h3 (tick_valid v hx) (by omega) (by omega) hk⟩,fun h=>by omega⟩
 exact ⟨_,key t 0 [] [] 0 0 rfl (clock0 hr) (by omega) (by omega) hk⟩

def G_qdm (e a:Int) (c f:Int) (b d:Int) (k:Bool→Prop):Prop:=br (decide (a < b)) (k true) (br (a==b) (k (decide (c < d))) (k false))
def S_qdm (e a:Int) (c f:Int) (b d:Int) (k:Bool→Prop):Prop:=G_qdm e a c f b d k
def F_qdm (a1 a2 a3 b1 b2 b3:Int) (k:Bool→Prop):Prop:=k (decide (Rar (a1,a2,a3) (b1,b2,b3)))
theorem F_qdm_S {a1 a2 a3 b1 b2 b3:Int} {k:Bool→Prop} (h:F_qdm a1 a2 a3 b1 b2 b3 k):S_qdm a1 a2 a3 b1 b2 b3 k:=by
 have yes:Rar (a1,a2,a3) (b1,b2,b3)→k true:=fun r=>by have:=h; unfold F_qdm at this; rwa [decide_eq_true r] at this
 have no:¬ Rar (a1,a2,a3) (b1,b2,b3)→k false:=fun r=>by have:=h; unfold F_qdm at this; rwa [decide_eq_false r] at this
 refine br_dec.2 ⟨fun h1=>yes (.inl h1),fun h1=>br_beq.2 ⟨fun h2=>?_,fun h2=>no fun r=>?_⟩⟩
 ·by_cases h3:a3 < b3
  ·rw [decide_eq_true h3]; exact yes (.inr ⟨h2,h3⟩)
  ·rw [decide_eq_false h3]; exact no fun r=>by unfold Rar at r; simp only at r; omega
 ·unfold Rar at r; simp only at r; omega

def T0_qdn (a:List (Int×Int×Int)) (c b:Int) (k:Int→Prop) (B0:Int→Int→Prop):Prop:=br (decide (b < (a.length:Int))) ((0≤b∧b < (a.length:Int))∧(0≤c∧c < (a.length:Int))∧(F_qdm (List.getD a (Int.toNat b) ((0:Int),(0:Int),(0:Int))).1 (List.getD a (Int.toNat b) ((0:Int),(0:Int),(0:Int))).2.1 (List.getD a (Int.toNat b) ((0:Int),(0:Int),(0:Int))).2.2 (List.getD a (Int.toNat c) ((0:Int),(0:Int),(0:Int))).1 (List.getD a (Int.toNat c) ((0:Int),(0:Int),(0:Int))).2.1 (List.getD a (Int.toNat c) ((0:Int),(0:Int),(0:Int))).2.2 fun d=>br d (InR (b+1)∧B0 b (b+1)) (InR (b+1)∧B0 c (b+1)))∧(True)) (k c)
def U0_qdn (a:List (Int×Int×Int)) (c b:Int) (k:Int→Prop) (B0:Int→Int→Prop):Prop:=br (decide (b < (a.length:Int))) ((0≤b∧b < (a.length:Int))∧(0≤c∧c < (a.length:Int))∧F_qdm (List.getD a (Int.toNat b) ((0:Int),(0:Int),(0:Int))).1 (List.getD a (Int.toNat b) ((0:Int),(0:Int),(0:Int))).2.1 (List.getD a (Int.toNat b) ((0:Int),(0:Int),(0:Int))).2.2 (List.getD a (Int.toNat c) ((0:Int),(0:Int),(0:Int))).1 (List.getD a (Int.toNat c) ((0:Int),(0:Int),(0:Int))).2.1 (List.getD a (Int.toNat c) ((0:Int),(0:Int),(0:Int))).2.2 fun d=>br d (InR (b+1)∧B0 b (b+1)) (InR (b+1)∧B0 c (b+1))) (k c)
theorem T0_qdn_eq (a:List (Int×Int×Int)) (b c:Int) (k:Int→Prop) (B0:Int→Int→Prop):T0_qdn a b c k B0=U0_qdn a b c k B0:=by
 first
 | (simp only [T0_qdn,U0_qdn,and_self,and_true]; done)
 | (simp only [T0_qdn,U0_qdn,and_self,and_true,and_self_left,and_assoc]; refine propext ⟨fun h=>?_,fun h=>?_⟩ <;> (repeat (cases ‹_∧_›)) <;> (repeat' (apply And.intro)) <;> assumption)
def L0_qdn (a:List (Int×Int×Int)) (k:Int→Prop):Nat→Int→Int→Prop | 0,_,_=>False | n+1,b,c=>U0_qdn a b c k (L0_qdn a k n)
def G_qdn (a:List (Int×Int×Int)) (I0:List (Int×Int×Int)→Int→Int→Prop):Prop:=I0 a 0 1
def S_qdn (a:List (Int×Int×Int)) (k:Int→Prop):Prop:=G_qdn a (fun a b c=>∃ j,L0_qdn a k j b c)
def F_qdn (l:List Ent) (k:Int→Prop):Prop:=(0 < l.length∧l.length≤1000000000)∧k (rareM l:Int)
theorem F_qdn_S {l:List Ent} {k:Int→Prop} (h:F_qdn l k):S_qdn l k:=by
 obtain ⟨⟨h0,h1⟩,hk⟩:=h
 have key:∀ (r:List Ent) (i p:Nat),l.drop i=r→p < i→i≤l.length→rareS l r i p=rareM l→L0_qdn l k (r.length+1) (p:Int) (i:Int):=by
  intro r
  induction r with
  | nil=>
   intro i p hd hp hi he
   have:=drop_nil' hd
   rw [L0_qdn,U0_qdn]
   simp only [br_dec]
   exact ⟨fun h=>by omega,fun _=>by rw [show p=rareM l from he]; exact hk⟩
  | cons x r ih=>
   intro i p hd hp hi he
   obtain ⟨g1,g2,_,g3,_⟩:=drop_cons' hd
   rw [rareS] at he
   rw [List.length_cons,L0_qdn,U0_qdn]
   simp only [br_dec,Int.toNat_natCast,g2]
   refine ⟨fun _=>⟨⟨by omega,by omega⟩,⟨by omega,by omega⟩,?_⟩,fun h=>by omega⟩
   show br (decide (Rar x (l.getD p ent0))) _ _
   refine br_dec.2 ⟨fun hr=>⟨inR (by omega) (by omega),?_⟩,fun hr=>⟨inR (by omega) (by omega),?_⟩⟩
   ·rw [if_pos hr] at he; exact ih (i+1) i g3 (by omega) (by omega) he
   ·rw [if_neg hr] at he; exact ih (i+1) p g3 (by omega) (by omega) he
 exact ⟨_,key (l.drop 1) 1 0 rfl (by omega) (by omega) rfl⟩

def T0_qdj (d:Int) (b:List (Int×Int×Int)) (e f c:Int) (k:List (Int×Int×Int)→Bool→Prop) (B0:Int→Prop):Prop:=br (decide (c < (b.length:Int))) ((0≤c∧c < (b.length:Int))∧br ((List.getD b (Int.toNat c) ((0:Int),(0:Int),(0:Int))).1==d) ((0≤c∧c < (b.length:Int))∧InR ((List.getD b (Int.toNat c) ((0:Int),(0:Int),(0:Int))).2.1+1)∧(0≤c∧c < (b.length:Int))∧k (List.set b (Int.toNat c) (d,(if 100 < ((List.getD b (Int.toNat c) ((0:Int),(0:Int),(0:Int))).2.1+1) then (100:Int) else ((List.getD b (Int.toNat c) ((0:Int),(0:Int),(0:Int))).2.1+1)),e)) true) (InR (c+1)∧B0 (c+1))) (br ((b.length:Int)==f) (F_qdn b fun a=>(0≤a∧a≤(b.length:Int))∧InR (a+1)∧(0≤(a+1)∧(a+1)≤(b.length:Int))∧((((0+(Int.toNat a))+(List.length (List.take (b.length - (Int.toNat (a+1))) (List.drop (Int.toNat (a+1)) b))))≤b.length)∧((List.length (List.take ((Int.toNat a)+(List.length (List.take (b.length - (Int.toNat (a+1))) (List.drop (Int.toNat (a+1)) b)))) (List.drop 0 (midA b (0+(Int.toNat a)) (List.take (b.length - (Int.toNat (a+1))) (List.drop (Int.toNat (a+1)) b))))))+1≤1000000000)∧k ((List.take ((Int.toNat a)+(List.length (List.take (b.length - (Int.toNat (a+1))) (List.drop (Int.toNat (a+1)) b)))) (List.drop 0 (midA b (0+(Int.toNat a)) (List.take (b.length - (Int.toNat (a+1))) (List.drop (Int.toNat (a+1)) b)))))++([(d,(1:Int),e)]:List (Int×Int×Int))) false)∧(True)) ((b.length+1≤1000000000)∧k (b++([(d,(1:Int),e)]:List (Int×Int×Int))) false))
def U0_qdj (d:Int) (b:List (Int×Int×Int)) (e f c:Int) (k:List (Int×Int×Int)→Bool→Prop) (B0:Int→Prop):Prop:=br (decide (c < (b.length:Int))) ((0≤c∧c < (b.length:Int))∧br ((List.getD b (Int.toNat c) ((0:Int),(0:Int),(0:Int))).1==d) ((0≤c∧c < (b.length:Int))∧InR ((List.getD b (Int.toNat c) ((0:Int),(0:Int),(0:Int))).2.1+1)∧(0≤c∧c < (b.length:Int))∧k (List.set b (Int.toNat c) (d,(if 100 < ((List.getD b (Int.toNat c) ((0:Int),(0:Int),(0:Int))).2.1+1) then (100:Int) else ((List.getD b (Int.toNat c) ((0:Int),(0:Int),(0:Int))).2.1+1)),e)) true) (InR (c+1)∧B0 (c+1))) (br ((b.length:Int)==f) (F_qdn b fun a=>(0≤a∧a≤(b.length:Int))∧InR (a+1)∧(0≤(a+1)∧(a+1)≤(b.length:Int))∧(((0+(Int.toNat a))+(List.length (List.take (b.length - (Int.toNat (a+1))) (List.drop (Int.toNat (a+1)) b))))≤b.length)∧((List.length (List.take ((Int.toNat a)+(List.length (List.take (b.length - (Int.toNat (a+1))) (List.drop (Int.toNat (a+1)) b)))) (List.drop 0 (midA b (0+(Int.toNat a)) (List.take (b.length - (Int.toNat (a+1))) (List.drop (Int.toNat (a+1)) b))))))+1≤1000000000)∧k ((List.take ((Int.toNat a)+(List.length (List.take (b.length - (Int.toNat (a+1))) (List.drop (Int.toNat (a+1)) b)))) (List.drop 0 (midA b (0+(Int.toNat a)) (List.take (b.length - (Int.toNat (a+1))) (List.drop (Int.toNat (a+1)) b)))))++([(d,(1:Int),e)]:List (Int×Int×Int))) false) ((b.length+1≤1000000000)∧k (b++([(d,(1:Int),e)]:List (Int×Int×Int))) false))
theorem T0_qdj_eq (c:Int) (a:List (Int×Int×Int)) (d b e:Int) (k:List (Int×Int×Int)→Bool→Prop) (B0:Int→Prop):T0_qdj c a d b e k B0=U0_qdj c a d b e k B0:=by
 first
 | (simp only [T0_qdj,U0_qdj,and_self,and_true]; done)
 | (simp only [T0_qdj,U0_qdj,and_self,and_true,and_self_left,and_assoc]; refine propext ⟨fun h=>?_,fun h=>?_⟩ <;> (repeat (cases ‹_∧_›)) <;> (repeat' (apply And.intro)) <;> assumption)
def L0_qdj (c:Int) (a:List (Int×Int×Int)) (d b:Int) (k:List (Int×Int×Int)→Bool→Prop):Nat→Int→Prop | 0,_=>False | n+1,e=>U0_qdj c a d b e k (L0_qdj c a d b k n)
def G_qdj (a:List (Int×Int×Int)) (b c d:Int) (I0:Int→List (Int×Int×Int)→Int→Int→Int→Prop):Prop:=(0+a.length≤1000000000)∧I0 c a d b 0
def S_qdj (a:List (Int×Int×Int)) (b c d:Int) (k:List (Int×Int×Int)→Bool→Prop):Prop:=G_qdj a b c d (fun c a d b e=>∃ j,L0_qdj c a d b k j e)
def F_qdj (l:List Ent) (room key now:Int) (k:List Ent→Bool→Prop):Prop:=
 (l.length≤1000000∧1≤room∧∀ e∈l,0≤e.2.1∧e.2.1≤1000)∧k (oftM l room key now).1 (oftM l room key now).2
theorem F_qdj_S {l:List Ent} {room key now:Int} {k:List Ent→Bool→Prop} (h:F_qdj l room key now k):S_qdj l room key now k:=by
 obtain ⟨⟨h0,h1,hc⟩,hk⟩:=h
 have go:∀ (r:List Ent) (i:Nat),l.drop i=r→plcF (r.map (·.1)) key i=entAt l key→key ∉ (l.take i).map (·.1)→L0_qdj key l now room k (r.length+1) (i:Int):=by
  intro r
  induction r with
  | nil=>
   intro i hd he hn
   have hi:=drop_nil' hd
   rw [List.take_of_length_le hi] at hn
   rw [L0_qdj,U0_qdj]
   rw [oftM,if_neg hn] at hk
   refine br_dec.2 ⟨fun h=>by omega,fun _=>br_beq.2 ⟨fun hf=>?_,fun hf=>?_⟩⟩
   ·rw [if_pos hf] at hk
    have hl:0 < l.length:=by omega
    have hr:=(rareM_ok (l:=l) (by intro e; rw [e] at hl; simp at hl)).1
    refine ⟨⟨hl,by omega⟩,⟨by omega,by omega⟩,inR (by omega) (by omega),⟨by omega,by omega⟩,by simp; omega,by simp; omega,?_⟩
    have ce:=cut_erase hr
    rw [List.drop_zero] at ce
    rw [List.drop_zero,mid_take1 (by omega) (by omega),Nat.zero_add,ce]; exact hk
   ·rw [if_neg hf] at hk
    exact ⟨by omega,hk⟩
  | cons x r ih=>
   intro i hd he hn
   obtain ⟨g1,g2,g5,g3,g4⟩:=drop_cons' hd
   have hm:=List.mem_of_getElem? g5
   have hx:=hc x hm
   rw [List.length_cons,L0_qdj,U0_qdj]
   simp only [br_dec,br_beq,Int.toNat_natCast,g2]
   refine ⟨fun _=>⟨⟨by omega,by omega⟩,fun e=>⟨⟨by omega,by omega⟩,inR (by omega) (by omega),⟨by omega,by omega⟩,?_⟩,fun e=>⟨inR (by omega) (by omega),?_⟩⟩,fun h=>by omega⟩
   ·rw [oftM,if_pos (List.mem_map.2 ⟨x,hm,e⟩)] at hk
    rw [List.map_cons,plcF,if_pos e] at he
    rw [← he,Int.toNat_natCast,g2] at hk
    rw [min_100]; exact hk
   ·rw [List.map_cons,plcF,if_neg e] at he
    refine ih (i+1) g3 he ?_
    rw [g4,List.map_append,List.mem_append]
    rintro (h | h)
    ·exact hn h
    ·simp at h; exact e h.symm
 exact ⟨by omega,_,go l 0 rfl rfl (by simp)⟩

def T0_qcj (g:Int) (h:LI) (f a:Int) (c:List (Int×Int×Int)) (k:List (Int×Int×Int)→Int→Prop) (B0:Int→Int→List (Int×Int×Int)→Prop):Prop:=br (decide (a < (h.length:Int))) ((0≤a∧a < (h.length:Int))∧F_qdj c g (List.getD h (Int.toNat a) (0:Int)) a fun d e=>F_qds e fun b=>InR (f+b)∧InR (a+1)∧B0 (f+b) (a+1) d) (k c f)
def L0_qcj (a:Int) (c:LI) (k:List (Int×Int×Int)→Int→Prop):Nat→Int→Int→List (Int×Int×Int)→Prop | 0,_,_,_=>False | n+1,d,e,b=>T0_qcj a c d e b k (L0_qcj a c k n)
def G_qcj (d:LI) (c:Int) (k:List (Int×Int×Int)→Int→Prop) (I0:Int→LI→Int→Int→List (Int×Int×Int)→Prop):Prop:=F_qdv d fun a=>br (!a) (k ([]:List (Int×Int×Int)) (-1)) (F_qdc c (1:Int) (8:Int) fun b=>br (!b) (k ([]:List (Int×Int×Int)) (-1)) (I0 c d 0 0 ([]:List (Int×Int×Int))))
def S_qcj (c:LI) (a:Int) (k:List (Int×Int×Int)→Int→Prop):Prop:=G_qcj c a k (fun a c d e b=>∃ j,L0_qcj a c k j d e b)
def F_qcj (t:LI) (room:Int) (k:List Ent→Int→Prop):Prop:=
 ((VTrace t∧1≤room∧room≤8)→k (runO room t [] 0 0).1 (runO room t [] 0 0).2)∧(¬ (VTrace t∧1≤room∧room≤8)→k [] (-1))
theorem F_qcj_S {t:LI} {room:Int} {k:List Ent→Int→Prop} (h:F_qcj t room k):S_qcj t room k:=by
 obtain ⟨hyes,hno⟩:=h
 intro b hb
 rw [br_not,br_iff]
 refine ⟨fun e=>br_not.2 (br_dec.2 ⟨fun hr=>?_,fun hr=>hno fun w=>hr w.2⟩),fun e=>hno fun v=>by rw [hb.2 v.1] at e; cases e⟩
 have v:=hb.1 e
 have hk:=hyes ⟨v,hr⟩
 have t1:=v.1
 have t2:=v.2
 have key:∀ (r:LI) (i:Nat) (l:List Ent) (n:Int),t.drop i=r→VEnt l room→(∀ e∈l,e.2.2 < (i:Int))→0≤n→n≤i→k (runO room r l i n).1 (runO room r l i n).2→L0_qcj room t k (r.length+1) n (i:Int) l:=by
  intro r
  induction r with
  | nil=>
   intro i l n hdr v hl n0 n1 hk
   have:=drop_nil' hdr
   rw [L0_qcj,T0_qcj]
   simp only [br_dec]
   exact ⟨fun h=>by omega,fun _=>hk⟩
  | cons x r ih=>
   intro i l n hdr v hl n0 n1 hk
   obtain ⟨h1,h2,h5,h3,h4⟩:=drop_cons' hdr
   have hx:=t2 x (List.mem_of_getElem? h5)
   rw [List.length_cons,L0_qcj,T0_qcj]
   simp only [br_dec,Int.toNat_natCast,h2]
   have h01:=toI_01 (oftM l room x i).2
   refine ⟨fun _=>⟨⟨by omega,by omega⟩,⟨by have:=v.2.1; omega,hr.1,fun y hy=>by have:=(v.2.2.1 y hy).2.1; omega⟩,inR (by omega) (by omega),inR (by omega) (by omega),?_⟩,fun h=>by omega⟩
   have:=ih (i+1) (oftM l room x i).1 (n+toI (oftM l room x i).2) h3 (oftM_valid v hx hl (by omega)) (by have:=oftM_last (room:=room) (key:=x) hl; simpa using this) (by omega) (by omega) (by simpa [runO] using hk)
   simpa using this
 exact ⟨_,key t 0 [] 0 rfl (ent_nil hr) (by simp) (by omega) (by omega) (by simpa using hk)⟩

def G_qcu (i g:Int) (j h:LI) (e a:LI) (k:Int→Int→LI→LI→LI→LI→Prop):Prop:=(F_qct j fun f=>(F_qct h fun b=>(F_qct e fun c=>(F_qct a fun d=>(k i g f b c d)∧(True))∧(True))∧(True))∧(True))∧(True)
def H_qcu (i g:Int) (j h:LI) (e a:LI) (k:Int→Int→LI→LI→LI→LI→Prop):Prop:=F_qct j fun f=>F_qct h fun b=>F_qct e fun c=>F_qct a fun d=>k i g f b c d
theorem G_qcu_eq (e c:Int) (f d:LI) (b a:LI) (k:Int→Int→LI→LI→LI→LI→Prop):G_qcu e c f d b a k=H_qcu e c f d b a k:=by
 first
 | (simp only [G_qcu,H_qcu,and_self,and_true]; done)
 | (simp only [G_qcu,H_qcu,and_self,and_true,and_self_left,and_assoc]; refine propext ⟨fun h=>?_,fun h=>?_⟩ <;> (repeat (cases ‹_∧_›)) <;> (repeat' (apply And.intro)) <;> assumption)
def S_qcu (e c:Int) (f d:LI) (b a:LI) (k:Int→Int→LI→LI→LI→LI→Prop):Prop:=H_qcu e c f d b a k
def F_qcu (r t:Int) (o f wo wf:LI) (k:Int→Int→LI→LI→LI→LI→Prop):Prop:=
 (o.length≤100000000∧f.length≤100000000∧wo.length≤100000000∧wf.length≤100000000)∧k r t o f wo wf
theorem F_qcu_S {r t:Int} {o f wo wf:LI} {k:Int→Int→LI→LI→LI→LI→Prop} (h:F_qcu r t o f wo wf k):S_qcu r t o f wo wf k:=by
 obtain ⟨⟨h1,h2,h3,h4⟩,hk⟩:=h
 exact ⟨by omega,by omega,by omega,by omega,hk⟩

def G_qdb (a:LI) (b:Int) (k:LI→Prop):Prop:=(1+a.length≤1000000000)∧k (([b]:LI)++a)
def S_qdb (a:LI) (b:Int) (k:LI→Prop):Prop:=G_qdb a b k
def F_qdb (l:LI) (n:Int) (k:LI→Prop):Prop:=l.length≤100000000∧k (n :: l)
theorem F_qdb_S {l:LI} {n:Int} {k:LI→Prop} (h:F_qdb l n k):S_qdb l n k:=⟨by have:=h.1; omega,h.2⟩

def G_qdd (c f:Int) (b a:LI) (e d:LI) (k:Bool→Prop):Prop:=InR ((b.length:Int)+(a.length:Int))∧k (((b.length:Int)+(a.length:Int))==c)
def S_qdd (e c:Int) (f d:LI) (b a:LI) (k:Bool→Prop):Prop:=G_qdd e c f d b a k
def F_qdd (r t:Int) (o f wo wf:LI) (k:Bool→Prop):Prop:=
 (o.length≤100000000∧f.length≤100000000)∧k (decide ((o.length:Int)+f.length=r))
theorem F_qdd_S {r t:Int} {o f wo wf:LI} {k:Bool→Prop} (h:F_qdd r t o f wo wf k):S_qdd r t o f wo wf k:=by
 obtain ⟨⟨h1,h2⟩,hk⟩:=h
 refine ⟨inR (by omega) (by omega),?_⟩
 rwa [show ((o.length:Int)+(f.length:Int)==r)=decide ((o.length:Int)+f.length=r) by rw [Bool.eq_iff_iff]; simp]

end Go.Ev
