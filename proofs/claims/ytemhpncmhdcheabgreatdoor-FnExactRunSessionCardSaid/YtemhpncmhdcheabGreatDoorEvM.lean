/- Steps that turn the state alone: things given up,frozen,renamed,kept. No statement is proved here. -/
import Derived.Test.YtemhpncmhdcheabGreatDoorEvL
namespace Go.Ev
set_option linter.unusedVariables false
set_option linter.unusedSimpArgs false
open Go
section
variable {P:Program} {T:Tab} {N:Nat} {w0:World} {M:Nat→Prop} {W:Wd} {lk:List Nat} {μ:Mu} {st:St} {a:Act} {w:World}
theorem own_sub {S S':Sk} {b:Nat} (h:∀ k,S' k≠none→S k≠none) (hno:¬ Own S μ b):¬ Own S' μ b:=by
 rintro (⟨k,p,hk,hm,e⟩ | hf)
 ·exact hno (.inl ⟨k,p,h k hk,hm,e⟩)
 ·exact hno (.inr hf)
theorem kill_ok (hR:RepM N w0 M W lk μ st a w) (k:Nat):RepM N w0 M W lk μ (st.kill k) a w:=by
 have hsk:∀ j,j≠k→skel (st.kill k).o j=skel st.o j:=fun j hj=>by
  simp only [skel]; rw [lkp_kill,if_neg hj,Option.map_map]; congr 1; funext z; exact sk_map _ z
 have hskk:skel (st.kill k).o k=none:=by simp [skel,lkp_kill]
 have hsub:∀ j,skel (st.kill k).o j≠none→skel st.o j≠none:=fun j h=>by
  by_cases e:j=k
  ·subst e; exact absurd hskk h
  ·rwa [hsk j e] at h
 refine hR.changeZ (C.kill k) (fun _=>False) (get_kill st k) (fun c y h=>h.gen (killF_kill k) (fun j s hj hs=>by rw [hsk j hj]; exact hs) (fun _ _ _=>rfl) (fun b hb hno=>⟨rfl,own_sub hsub hno⟩) (Nat.le_refl _))
  (fun j ob' e _=>?_) (fun _ _ h=>h.elim) (fun _ _ h=>h.elim) ⟨rfl,fun _ _=>rfl,fun _ _ h=>h.elim⟩ hR.fr
 rw [lkp_kill] at e
 split at e
 ·cases e
 ·cases e2:lkp st.o j with
  | none=>rw [e2] at e; cases e
  | some ob=>
   rw [e2] at e; injection e with e
   exact ⟨ob,rfl,e.symm,rfl,fun _ _=>rfl⟩
theorem killAll_ok:∀ (ks:List Nat) {st:St},RepM N w0 M W lk μ st a w→RepM N w0 M W lk μ (killAll ks st) a w
 | [],_,h=>h
 | k :: ks,_,h=>killAll_ok ks (kill_ok h k)
theorem killO_ok (hR:RepM N w0 M W lk μ st a w) (b:Option Nat):RepM N w0 M W lk μ (killO st b) a w:=by
 cases b with
 | none=>exact hR
 | some k=>exact kill_ok hR k
theorem free_ok (hR:RepM N w0 M W lk μ st a w) (k:Nat):RepM N w0 M W lk μ (st.free k) a w:=by
 unfold St.free; split
 ·exact kill_ok hR k
 ·exact hR
theorem free_none (st:St) (k:Nat):lkp (st.free k).o k=none:=by
 unfold St.free; split
 ·rw [lkp_kill,if_pos rfl]
 ·assumption
theorem free_keep (st:St) (k j:Nat) (h:lkp st.o j=none):lkp (st.free k).o j=none:=by
 unfold St.free; split
 ·rw [lkp_kill]; split
  ·rfl
  ·rw [h]; rfl
 ·exact h
theorem freeN_ok:∀ (n k:Nat) {st:St},RepM N w0 M W lk μ st a w→RepM N w0 M W lk μ (freeN n k st) a w
 | 0,_,_,h=>h
 | n+1,k,_,h=>freeN_ok n (k+1) (free_ok h k)
theorem freeN_keep:∀ (n k:Nat) (st:St) (j:Nat),lkp st.o j=none→lkp (freeN n k st).o j=none
 | 0,_,_,_,h=>h
 | n+1,k,st,j,h=>freeN_keep n (k+1) _ j (free_keep st k j h)
theorem freeN_none:∀ (n k:Nat) (st:St) (j:Nat),k≤j→j < k+n→lkp (freeN n k st).o j=none
 | 0,_,_,_,h1,h2=>by omega
 | n+1,k,st,j,h1,h2=>by
  by_cases e:j=k
  ·subst e; exact freeN_keep n (j+1) _ j (free_none st j)
  ·exact freeN_none n (k+1) _ j (by omega) (by omega)
theorem RC_frz (hR:RepM N w0 M W lk μ st a w) {k:Nat} {τ:Ty} {l:List τ.D} (hl:lkp st.o k=some (.row τ l)) (hk:k < 100000) {S':Sk} (hsk:∀ j,j≠k→S' j=skel st.o j) (hskk:S' k=none) {c:C} {y:Value}
  (h:RC (skel st.o) μ w c y):RC S' μ w (c.frz k τ l) y:=by
 have hsub:∀ j,S' j≠none→skel st.o j≠none:=fun j h=>by
  by_cases e:j=k
  ·subst e; exact absurd hskk h
  ·rwa [hsk j e] at h
 have hS:=skel_of hl
 have hgone:∀ p,μ k=some p→¬ Own S' μ p.1:=by
  rintro p hp (⟨j,q,hj,hq,e⟩ | hf)
  ·have e1:=hR.inj j k q p (hsub j hj) (skel_ne hl) hq hp e
   subst e1; exact hj hskk
  ·exact hf (hR.fo k _ hk (hR.ok k p (skel_ne hl) hp))
 have hgen:∀ (f:C→C),KillF (fun j=>j=k) f→RC S' μ w (f c) y:=fun f hf=>h.gen hf (fun j s hj hs=>by rw [hsk j hj]; exact hs) (fun _ _ _=>rfl) (fun b hb hno=>⟨rfl,own_sub hsub hno⟩) (Nat.le_refl _)
 have hhead:∀ {A:Option Addr} {off n c:Nat},Hd μ k τ A off n c→0 < n→∀ a,A=some a→¬ Own S' μ a.block:=by
  intro A off n c hh hn a ha
  obtain ⟨h1,h2,⟨rfl,_⟩ | ⟨g,o,s,o',hm,rfl,_⟩⟩:=hh
  ·cases ha
  ·injection ha with ha; subst ha
   exact hgone _ hm
 cases c with
 | v x=>exact h
 | nil=>exact h
 | arr l=>exact h
 | ro σ l'=>exact hgen (fun c=>c.kill k) (killF_kill k)
 | pe cells j=>exact hgen (fun c=>c.kill k) (killF_kill k)
 | cl f cs=>exact hgen (fun c=>c.kill k) (killF_kill k)
 | rol τ ls=>exact hgen (fun c=>c.kill k) (killF_kill k)
 | pel τ l=>exact hgen (fun c=>c.kill k) (killF_kill k)
 | un=>trivial
 | ow k'=>
  rcases beq_cases k' k with ⟨rfl,e⟩ | ⟨hne,e⟩
  ·simp only [C.frz,e]
   obtain ⟨A,n,c,σ,rfl,hs,hh⟩:=h
   rw [hS] at hs
   injection hs with hs; injection hs with e1 e2; subst e1; subst e2
   have hr:=ro_of_row hh (l:=l) (by omega) (hR.ob k' _ hl)
   rw [List.drop_zero,List.take_length] at hr
   exact ⟨A,_,c,rfl,hr,hhead hh⟩
  ·have:=hgen _ (killF_kill k)
   simp only [C.kill,C.frz,e] at this ⊢; exact this
 | sub k' off len=>
  rcases beq_cases k' k with ⟨rfl,e⟩ | ⟨hne,e⟩
  ·simp only [C.frz,e]
   obtain ⟨A,c,σ,n,rfl,hs,hn,_,hh⟩:=h
   rw [hS] at hs
   injection hs with hs; injection hs with e1 e2; subst e1; subst e2
   exact ⟨A,_,c,rfl,ro_of_row hh (l:=l) hn (hR.ob k' _ hl),hhead hh⟩
  ·have:=hgen _ (killF_kill k)
   simp only [C.kill,C.frz,e] at this ⊢; exact this
 | pb k' j=>
  have:=hgen _ (killF_kill k)
  exact this
 | sb k' j=>
  have:=hgen _ (killF_kill k)
  exact this
 | pr k' i j=>
  have:=hgen _ (killF_kill k)
  exact this
 | xs k' off len c=>
  have:=hgen _ (killF_kill k)
  exact this
theorem lkp_frz (f:C→C) (k:Nat) (o:List (Nat×OB)) (j:Nat):lkp (mapO f (dropO k o)) j=if j=k then none else (lkp o j).map (OB.map f):=by
 rw [lkp_mapO]
 by_cases h:j=k
 ·subst h; simp [lkp_dropO_same]
 ·simp [lkp_dropO_ne h,h]
theorem frz_ok (hR:RepM N w0 M W lk μ st a w) {k:Nat} {st':St} (h:st.frz k=some st'):RepM N w0 M W lk μ st' a w:=by
 unfold St.frz at h
 split at h
 ·rename_i τ l hl hk
  injection h with h; subst h
  have hk:k < 100000:=by simpa using hk
  have hsk:∀ j,j≠k→skel (mapO (C.frz k τ l) (dropO k st.o)) j=skel st.o j:=fun j hj=>by
   simp only [skel]; rw [lkp_frz,if_neg hj,Option.map_map]; congr 1; funext z; exact sk_map _ z
  have hskk:skel (mapO (C.frz k τ l) (dropO k st.o)) k=none:=by simp [skel,lkp_frz]
  refine hR.changeZ (C.frz k τ l) (fun _=>False) (fun i=>get_mapT _ st _ i rfl) (fun c y h=>RC_frz hR hl hk hsk hskk h) (fun j ob' e _=>?_) (fun _ _ h=>h.elim) (fun _ _ h=>h.elim) ⟨rfl,fun _ _=>rfl,fun _ _ h=>h.elim⟩ hR.fr
  rw [lkp_frz] at e
  split at e
  ·cases e
  ·cases e2:lkp st.o j with
   | none=>rw [e2] at e; cases e
   | some ob=>
    rw [e2] at e; injection e with e
    exact ⟨ob,rfl,e.symm,rfl,fun _ _=>rfl⟩
 ·injection h with h; subst h; exact hR
 ·cases h
theorem frzAll_ok:∀ (ks:List Nat) {st st':St},RepM N w0 M W lk μ st a w→frzAll ks st=some st'→RepM N w0 M W lk μ st' a w
 | [],_,_,hR,h=>by injection h with h; subst h; exact hR
 | k :: ks,_,_,hR,h=>by
  unfold frzAll at h
  split at h
  ·rename_i st1 h1
   exact frzAll_ok ks (frz_ok hR h1) h
  ·cases h
theorem frz_keep {k j:Nat} {st':St} (h:st.frz k=some st') (hj:lkp st.o j=none):lkp st'.o j=none:=by
 unfold St.frz at h
 split at h
 ·injection h with h; subst h
  rw [lkp_frz]; split
  ·rfl
  ·rw [hj]; rfl
 ·injection h with h; subst h; exact hj
 ·cases h
theorem frzAll_keep {j:Nat}:∀ (ks:List Nat) {st st':St},frzAll ks st=some st'→lkp st.o j=none→lkp st'.o j=none
 | [],_,_,h,hj=>by injection h with h; subst h; exact hj
 | k :: ks,_,_,h,hj=>by
  unfold frzAll at h
  split at h
  ·rename_i st1 h1
   exact frzAll_keep ks h (frz_keep h1 hj)
  ·cases h
theorem lkp_renO_new {k k2:Nat}:∀ {o:List (Nat×OB)},lkp o k2=none→lkp (renO k k2 o) k2=lkp o k
 | [],_=>rfl
 | (i,x) :: r,h=>by
  rcases beq_cases i k2 with ⟨rfl,_⟩ | ⟨hi,_⟩
  ·rw [lkp_cons_same] at h; cases h
  ·rw [lkp_cons_ne _ _ hi] at h
   rcases beq_cases i k with ⟨rfl,e⟩ | ⟨hk,e⟩
   ·simp only [renO,e]; rw [lkp_cons_same,lkp_cons_same]
   ·simp only [renO,e]; rw [lkp_cons_ne _ _ hi,lkp_cons_ne _ _ hk]; exact lkp_renO_new h
theorem lkp_renO_old {k k2:Nat} (hne:k≠k2):∀ (o:List (Nat×OB)),lkp (renO k k2 o) k=none
 | []=>rfl
 | (i,x) :: r=>by
  rcases beq_cases i k with ⟨rfl,e⟩ | ⟨hk,e⟩
  ·simp only [renO,e]; rw [lkp_cons_ne _ _ (Ne.symm hne)]; exact lkp_renO_old hne r
  ·simp only [renO,e]; rw [lkp_cons_ne _ _ hk]; exact lkp_renO_old hne r
theorem lkp_renO_ne {k k2 j:Nat} (h1:j≠k) (h2:j≠k2):∀ (o:List (Nat×OB)),lkp (renO k k2 o) j=lkp o j
 | []=>rfl
 | (i,x) :: r=>by
  rcases beq_cases i k with ⟨rfl,e⟩ | ⟨hk,e⟩
  ·simp only [renO,e]; rw [lkp_cons_ne _ _ (Ne.symm h2),lkp_cons_ne _ _ (Ne.symm h1)]; exact lkp_renO_ne h1 h2 r
  ·simp only [renO,e]
   rcases beq_cases i j with ⟨rfl,_⟩ | ⟨hj,_⟩
   ·rw [lkp_cons_same,lkp_cons_same]
   ·rw [lkp_cons_ne _ _ hj,lkp_cons_ne _ _ hj]; exact lkp_renO_ne h1 h2 r
def capR (k k2:Nat):Cap→Cap
 | .b j=>.b (if j=k then k2 else j)
 | x=>x
theorem capRen_len {k k2:Nat}:∀ cs:List Cap,(capRen k k2 cs).length=cs.length
 | []=>rfl
 | .b j :: r=>by
  unfold capRen
  split <;> simp [capRen_len r]
 | .k x :: r=>by simp [capRen,capRen_len r]
 | .v x :: r=>by simp [capRen,capRen_len r]
theorem capRen_get {k k2:Nat}:∀ {cs:List Cap} {i:Nat} {x:Cap},(capRen k k2 cs)[i]?=some x→∃ x0,cs[i]?=some x0∧x=capR k k2 x0
 | [],i,x,h=>by simp [capRen] at h
 | c :: r,i,x,h=>by
  have h1:capRen k k2 (c :: r)=capR k k2 c :: capRen k k2 r:=by
   cases c with
   | b j=>
    rcases beq_cases j k with ⟨rfl,e⟩ | ⟨hn,e⟩
    ·simp [capRen,capR]
    ·simp [capRen,capR,e,hn]
   | k x=>rfl
   | v x=>rfl
  rw [h1] at h
  cases i with
  | zero=>simp at h; exact ⟨c,rfl,h.symm⟩
  | succ i=>exact capRen_get (cs:=r) (by simpa using h)
theorem ren1w_ok (hR:RepM N w0 M W [] μ st a w) {k k2:Nat} (hW:∀ p,skel st.o k≠none→μ k=some p→W k2 p.1) (hk2:k2 < 100000) (hne:k≠k2) (h2:lkp st.o k2=none):∃ μ',RepM N w0 M W [] μ' (st.ren1 k k2) a w:=by
 let μ':Mu:=⟨fun i=>if i=k2 then μ k else μ i,μ.fo⟩
 have hm2:μ' k2=μ k:=by simp [μ']
 have hmo:∀ i,i≠k2→μ' i=μ i:=fun i h=>by simp [μ',h]
 have hmap2:lkp (mapO (C.ren k k2) st.o) k2=none:=by rw [lkp_mapO,h2]; rfl
 have hl2:lkp (st.ren1 k k2).o k2=(lkp st.o k).map (OB.map (C.ren k k2)):=by
  show lkp (renO k k2 (mapO _ st.o)) k2=_
  rw [lkp_renO_new hmap2,lkp_mapO]
 have hlk:lkp (st.ren1 k k2).o k=none:=lkp_renO_old hne _
 have hlo:∀ j,j≠k→j≠k2→lkp (st.ren1 k k2).o j=(lkp st.o j).map (OB.map (C.ren k k2)):=fun j h1 h2=>by
  show lkp (renO k k2 (mapO _ st.o)) j=_
  rw [lkp_renO_ne h1 h2,lkp_mapO]
 have hs2:skel (st.ren1 k k2).o k2=skel st.o k:=by
  simp only [skel]; rw [hl2,Option.map_map]; congr 1; funext z; exact sk_map _ z
 have hso:∀ j,j≠k→j≠k2→skel (st.ren1 k k2).o j=skel st.o j:=fun j h1 h2=>by
  simp only [skel]; rw [hlo j h1 h2,Option.map_map]; congr 1; funext z; exact sk_map _ z
 have hsk:skel (st.ren1 k k2).o k=none:=by simp [skel,hlk]
 have hdead:skel st.o k2=none:=by simp [skel,h2]
 -- what is live now was live,at the same place
 have hold:∀ j q,skel (st.ren1 k k2).o j≠none→μ' j=some q→∃ i,skel st.o i≠none∧μ i=some q∧(j=if i=k then k2 else i):=by
  intro j q hj hq
  by_cases e2:j=k2
  ·subst e2
   rw [hs2] at hj; rw [hm2] at hq
   exact ⟨k,hj,hq,by simp⟩
  ·by_cases e1:j=k
   ·subst e1; exact absurd hsk hj
   ·rw [hso j e1 e2] at hj; rw [hmo j e2] at hq
    exact ⟨j,hj,hq,by simp [e1]⟩
 have hown:∀ b,¬ Own (skel st.o) μ b→¬ Own (skel (st.ren1 k k2).o) μ' b:=by
  rintro b hno (⟨j,q,hj,hq,e⟩ | hf)
  ·obtain ⟨i,h1,h2,_⟩:=hold j q hj hq
   exact hno (.inl ⟨i,q,h1,h2,e⟩)
  ·exact hno (.inr hf)
 have hCk:∀ j s,skel st.o j=some s→skel (st.ren1 k k2).o (if j=k then k2 else j)=some s∧μ' (if j=k then k2 else j)=μ j:=by
  intro j s hs
  by_cases e:j=k
  ·subst e; rw [if_pos rfl]; exact ⟨hs2.trans hs,hm2⟩
  ·rw [if_neg e]
   have e2:j≠k2:=fun e2=>by subst e2; rw [hdead] at hs; cases hs
   exact ⟨(hso j e e2).trans hs,hmo j e2⟩
 have hC:∀ c y,RC (skel st.o) μ w c y→RC (skel (st.ren1 k k2).o) μ' w (c.ren k k2) y:=by
  intro c y h
  cases c with
  | v x=>exact h
  | arr l=>exact h
  | nil=>exact h
  | ro τ l=>
   obtain ⟨A,n,c,rfl,hr,ho⟩:=h
   exact ⟨A,n,c,rfl,hr,fun hn a ha=>hown _ (ho hn a ha)⟩
  | ow j=>
   obtain ⟨A,n,c,τ,rfl,hs,hh⟩:=h
   obtain ⟨b1,b2⟩:=hCk j _ hs
   have:RC (skel (st.ren1 k k2).o) μ' w (.ow (if j=k then k2 else j)) (.slice A n c):=⟨A,n,c,τ,rfl,b1,by unfold Hd at *; rw [b2]; exact hh⟩
   rcases beq_cases j k with ⟨rfl,e⟩ | ⟨hn,e⟩
   ·simp only [C.ren,e]; simpa using this
   ·simp only [C.ren,e]; simpa [hn] using this
  | sub j off len=>
   obtain ⟨A,c,τ,n,rfl,hs,hn,hnc,hh⟩:=h
   obtain ⟨b1,b2⟩:=hCk j _ hs
   have:RC (skel (st.ren1 k k2).o) μ' w (.sub (if j=k then k2 else j) off len) (.slice A len c):=⟨A,c,τ,n,rfl,b1,hn,hnc,by unfold Hd at *; rw [b2]; exact hh⟩
   rcases beq_cases j k with ⟨rfl,e⟩ | ⟨hn,e⟩
   ·simp only [C.ren,e]; simpa using this
   ·simp only [C.ren,e]; simpa [hn] using this
  | sb j i=>
   obtain ⟨g,o,s,c,rfl,hs,hm,h5⟩:=h
   obtain ⟨b1,b2⟩:=hCk j _ hs
   have:RC (skel (st.ren1 k k2).o) μ' w (.sb (if j=k then k2 else j) i) (.slice (some ⟨g,o,none⟩) i c):=⟨g,o,s,c,rfl,b1,b2.trans hm,h5⟩
   rcases beq_cases j k with ⟨rfl,e⟩ | ⟨hn,e⟩
   ·simp only [C.ren,e]; simpa using this
   ·simp only [C.ren,e]; simpa [hn] using this
  | pb j i=>
   obtain ⟨g,o,s,hs,hm,rfl⟩:=h
   obtain ⟨b1,b2⟩:=hCk j _ hs
   have:RC (skel (st.ren1 k k2).o) μ' w (.pb (if j=k then k2 else j) i) (.pointer (some ⟨g,o+i,none⟩)):=⟨g,o,s,b1,b2.trans hm,rfl⟩
   rcases beq_cases j k with ⟨rfl,e⟩ | ⟨hn,e⟩
   ·simp only [C.ren,e]; simpa using this
   ·simp only [C.ren,e]; simpa [hn] using this
  | pr j i q=>
   obtain ⟨g,o,s,τ,n,hs,hi,hm,rfl⟩:=h
   obtain ⟨b1,b2⟩:=hCk j _ hs
   have:RC (skel (st.ren1 k k2).o) μ' w (.pr (if j=k then k2 else j) i q) (.pointer (some ⟨g,o+i*τ.sz+q,none⟩)):=⟨g,o,s,τ,n,b1,hi,b2.trans hm,rfl⟩
   rcases beq_cases j k with ⟨rfl,e⟩ | ⟨hn,e⟩
   ·simp only [C.ren,e]; simpa using this
   ·simp only [C.ren,e]; simpa [hn] using this
  | pe cells j=>
   obtain ⟨b,o,rfl,hc,hlt,hno,hok⟩:=h
   exact ⟨b,o,rfl,hc,hlt,hown _ hno,hok⟩
  | cl f cs=>
   obtain ⟨ps,e,hl,hp⟩:=h
   refine ⟨ps,e.mono fun b hb hno=>⟨rfl,hown _ hno⟩,by rw [capRen_len]; exact hl,fun i x p hx hp'=>?_⟩
   obtain ⟨x0,e1,e2⟩:=capRen_get hx
   have h0:=hp i x0 p e1 hp'
   subst e2
   cases x0 with
   | k x=>exact PeAt.mono h0 (fun b hb hno=>⟨rfl,hown _ hno⟩) (Nat.le_refl _)
   | b j=>
    obtain ⟨g,o,s,hs,hm,rfl⟩:=h0
    obtain ⟨b1,b2⟩:=hCk j _ hs
    exact ⟨g,o,s,b1,b2.trans hm,rfl⟩
   | v x=>exact h0
  | rol τ ls=>exact rol_mono h (fun b hb hno=>⟨rfl,hown _ hno⟩) (Nat.le_refl _)
  | pel τ l=>exact pel_mono h (fun b hb hno=>⟨rfl,hown _ hno⟩) (Nat.le_refl _)
  | xs j off len c=>
   obtain ⟨A,τ,n,rfl,hs,hh⟩:=h
   obtain ⟨b1,b2⟩:=hCk j _ hs
   have:RC (skel (st.ren1 k k2).o) μ' w (.xs (if j=k then k2 else j) off len c) (.slice A len c):=⟨A,τ,n,rfl,b1,by unfold Hd at *; rw [b2]; exact hh⟩
   rcases beq_cases j k with ⟨rfl,e⟩ | ⟨hn,e⟩
   ·simp only [C.ren,e]; simpa using this
   ·simp only [C.ren,e]; simpa [hn] using this
  | un=>trivial
 refine ⟨μ',hR.changeZ (C.ren k k2) (fun j=>j=k2) (fun i=>get_mapT _ st _ i rfl) hC (fun j ob' e hz=>?_) (fun j ob' hz e=>?_) (fun j p hz hs hp=>?_) ⟨rfl,fun j hj=>hmo j (by omega),fun j hj e=>by omega⟩ hR.fr⟩
 ·have hjk:j≠k:=fun e2=>by subst e2; rw [hlk] at e; cases e
  rw [hlo j hjk hz] at e
  cases e2:lkp st.o j with
  | none=>rw [e2] at e; cases e
  | some ob=>
   rw [e2] at e; injection e with e
   exact ⟨ob,rfl,e.symm,hmo j hz,fun _ _=>rfl⟩
 ·subst hz
  rw [hl2] at e
  cases e2:lkp st.o k with
  | none=>rw [e2] at e; cases e
  | some ob=>
   rw [e2] at e; injection e with e; subst e
   have hb:=hR.ob k ob e2
   cases ob with
   | row τ l=>
    rcases hb with ⟨hb1,hb2⟩ | ⟨g,o,s,cur,ty,hm,hb⟩
    ·exact .inl ⟨hm2.trans hb1,hb2⟩
    ·exact .inr ⟨g,o,s,cur,ty,hm2.trans hm,hb⟩
   | box cs=>
    obtain ⟨g,o,s,cur,ty,hm,hh,hs,hsz,hr⟩:=hb
    refine ⟨g,o,s,cur,ty,hm2.trans hm,hh,hs,by simpa using hsz,?_⟩
    have:=RCs.map (f:=C.ren k j) hC hr
    simpa using this
 ·subst hz
  rw [hs2] at hs; rw [hm2] at hp
  refine ⟨fun j' q hne' hs' hq e=>?_,fun _=>hR.wr k p hs rfl hp,hW p hs hp⟩
  obtain ⟨i,h1,h2,h3⟩:=hold j' q hs' hq
  have:=hR.inj i k q p h1 hs h2 hp e
  subst this
  rw [if_pos rfl] at h3
  exact hne' h3
theorem ren1_ok (hR:RepM N w0 M W [] μ st a w) {k k2:Nat} (hk:k < 100000) (hk2:k2 < 100000) (hne:k≠k2) (h2:lkp st.o k2=none):∃ μ',RepM N w0 M W [] μ' (st.ren1 k k2) a w:=
 ren1w_ok hR (fun p hs hp=>hR.tr k k2 _ hk (hR.ok k p hs hp)) hk2 hne h2
theorem lowKeys_ok:∀ (ks:List Nat) {μ:Mu} {st:St},RepM N w0 M W [] μ st a w→(∀ k∈ks,∀ p,W.hi k=some p→W k p.1→W (k - 20000) p.1)→∃ μ',RepM N w0 M W [] μ' (lowKeys ks st) a w
 | [],μ,st,hR,_=>⟨μ,hR⟩
 | k :: r,μ,st,hR,hW=>by
  unfold lowKeys
  split
  ·rename_i h1 h2 h3
   have h1:100000≤k:=by simpa using h1
   have h2:k < 110000:=by simpa using h2
   obtain ⟨μ1,hR1⟩:=ren1w_ok (k:=k) (k2:=k - 20000) hR (fun p hs hp=>hW k List.mem_cons_self p (by rw [← hR.hh.1 k h1]; exact hp) (hR.ok k p hs hp)) (by omega) (by omega) h3
   exact lowKeys_ok r hR1 fun k' hk'=>hW k' (List.mem_cons_of_mem _ hk')
  ·exact ⟨μ,hR⟩
theorem ren_ok (hR:RepM N w0 M W [] μ st a w) {k k2:Nat} {st':St} (h:st.ren k k2=some st'):∃ μ',RepM N w0 M W [] μ' st' a w:=by
 unfold St.ren at h
 rcases beq_cases k k2 with ⟨rfl,e⟩ | ⟨hne,e⟩
 ·rw [e] at h; injection h with h; subst h; exact ⟨μ,hR⟩
 ·rw [e] at h
  simp only at h
  split at h
  ·rename_i hb hb2
   injection h with h; subst h
   exact ren1_ok (free_ok hR k2) (by simpa using hb) (by simpa using hb2) hne (free_none st k2)
  ·cases h
theorem view_ok (hR:RepM N w0 M W lk μ st a w) {st':St} (ho:∀ k,lkp st'.o k=lkp st.o k) (ht:∀ i,RA (skel st.o) μ w (st'.get i) (vAt W.fr a.tmps i)):RepM N w0 M W lk μ st' a w:=by
 have hsk:skel st'.o=skel st.o:=by funext k; simp only [skel,ho]
 refine ⟨hR.df,hR.sz,fun i=>by rw [hsk]; exact ht i,fun k ob h=>by rw [hsk]; exact hR.ob k ob (by rw [← ho]; exact h),fun k k' p p' h h'=>hR.inj k k' p p' (by rw [← hsk]; exact h) (by rw [← hsk]; exact h'),hR.fr,fun k p h=>hR.wr k p (by rw [← hsk]; exact h),fun k p h=>hR.ok k p (by rw [← hsk]; exact h),hR.up,hR.tr,hR.fo,hR.hh.1,hR.hh.2.1,by rw [hsk]; exact hR.hh.2.2⟩
theorem reput_ok (hR:RepM N w0 M W lk μ st a w) {s:Nat} {x:AV} (hx:RA (skel st.o) μ w x (vAt W.fr a.tmps s)):RepM N w0 M W lk μ (st.put s x) a w:=by
 refine view_ok hR (fun _=>rfl) fun i=>?_
 by_cases h:s=i
 ·subst h; rw [get_put_same]; exact hx
 ·rw [get_put_ne st x h]; exact hR.tm i
theorem keepT_get (st:St) (o:List (Nat×OB)):∀ (ts:List Nat) (i:Nat),(⟨keepT st ts,o⟩:St).get i=st.get i∨(⟨keepT st ts,o⟩:St).get i=.one (.c .un)
 | [],i=>.inr rfl
 | t :: ts,i=>by
  rcases beq_cases t i with ⟨rfl,e⟩ | ⟨hne,e⟩
  ·left; simp [St.get,keepT,lkp]
  ·have:=keepT_get st o ts i
   simp only [St.get,keepT,lkp_cons_ne _ _ hne] at this ⊢
   exact this
theorem keepO_lkp {o:List (Nat×OB)}:∀ {os:List Nat} {o':List (Nat×OB)},keepO o os=some o'→(∀ k∈os,lkp o' k=lkp o k)∧∀ k,k ∉ os→lkp o' k=none
 | [],o',h=>by injection h with h; subst h; exact ⟨fun k h=>(by cases h),fun _ _=>rfl⟩
 | j :: os,o',h=>by
  unfold keepO at h
  split at h
  ·rename_i x l h1 h2
   injection h with h; subst h
   obtain ⟨i1,i2⟩:=keepO_lkp h2
   refine ⟨fun k hk=>?_,fun k hk=>?_⟩
   ·rcases beq_cases j k with ⟨rfl,_⟩ | ⟨hne,_⟩
    ·rw [lkp_cons_same,h1]
    ·rw [lkp_cons_ne _ _ hne]
     exact i1 k ((List.mem_cons.1 hk).resolve_left (Ne.symm hne))
   ·rw [lkp_cons_ne _ _ fun e=>hk (by simp [e])]
    exact i2 k fun e=>hk (by simp [e])
  ·cases h
theorem otherKeys_mem {os:List Nat}:∀ {o:List (Nat×OB)} {k:Nat},lkp o k≠none→k ∉ os→k∈otherKeys os o
 | [],k,h,_=>absurd rfl h
 | (j,x) :: o,k,h,hk=>by
  unfold otherKeys
  rcases beq_cases j k with ⟨rfl,_⟩ | ⟨hne,_⟩
  ·have:memN os j=false:=by
    cases e:memN os j with
    | false=>rfl
    | true=>exact absurd ((memN_iff _ _).1 e) hk
   rw [this]; simp
  ·rw [lkp_cons_ne _ _ hne] at h
   have:=otherKeys_mem h hk
   split
   ·exact this
   ·simp [this]
theorem killAll_none:∀ (ks:List Nat) (st:St) (j:Nat),(lkp st.o j=none∨j∈ks)→lkp (killAll ks st).o j=none
 | [],st,j,h=>h.elim id fun h=>by cases h
 | k :: ks,st,j,h=>by
  refine killAll_none ks _ j ?_
  rw [lkp_kill]
  by_cases e:j=k
  ·left; rw [if_pos e]
  ·rw [if_neg e]
   rcases h with h | h
   ·left; rw [h]; rfl
   ·right; exact (List.mem_cons.1 h).resolve_left e
theorem RCs.reset {S:Sk} {μ:Mu} {w:World} {c0 c:C} (hf:∀ y,RC S μ w c0 y→RC S μ w c y):∀ {cs:List C} {ys:List Value} {j:Nat},RCs S μ w cs ys→cs[j]?=some c0→RCs S μ w (cs.set j c) ys
 | [],_,j,_,h=>by simp at h
 | x :: cs,y :: ys,0,h,e=>by simp at e; subst e; exact ⟨hf y h.1,h.2.1,h.2.2⟩
 | x :: cs,y :: ys,j+1,h,e=>⟨h.1,h.2.1,RCs.reset hf h.2.2 (by simpa using e)⟩
 | _ :: _,[],_,h,_=>h.elim
theorem ownSub_ok (hR:RepM N w0 M W [] μ st a w) {k' k off n:Nat} {σ:Ty} {l:List σ.D} (hl:lkp st.o k'=some (.row σ l)) (hk1:k' < 100000) (hk2:k < 100000) {y:Value} (hs:RC (skel st.o) μ w (.sub k' off n) y) :
  ∃ μ',RepM N w0 M W [] μ' ((st.kill k').newK k (.row σ ((l.drop off).take n))) a w∧RC (skel ((st.kill k').newK k (.row σ ((l.drop off).take n))).o) μ' w (.ow k) y∧
   ∀ b,b≠k→b≠k'→μ' b=μ b∧∀ l0,lkp st.o b=some (.box l0)→lkp ((st.kill k').newK k (.row σ ((l.drop off).take n))).o b=some (.box (l0.map fun c=>match lkp (st.kill k').o k with
    | none=>c.kill k'
    | some _=>(c.kill k').kill k)):=by
 have hbox:∀ b,b≠k→b≠k'→∀ l0,lkp st.o b=some (.box l0)→lkp ((st.kill k').newK k (.row σ ((l.drop off).take n))).o b=some (.box (l0.map fun c=>match lkp (st.kill k').o k with
    | none=>c.kill k'
    | some _=>(c.kill k').kill k)):=by
  intro b hb hb' l0 h0
  have h1:lkp (st.kill k').o b=some (.box (l0.map (C.kill k'))):=by
   rw [lkp_kill,if_neg hb',h0]; rfl
  unfold St.newK
  cases hq:lkp (st.kill k').o k with
  | none=>simp only []; rw [lkp_cons_ne _ _ (Ne.symm hb),h1]
  | some ob=>
   simp only []
   rw [lkp_cons_ne _ _ (Ne.symm hb),lkp_mapO,lkp_dropO_ne hb,h1]
   simp [OB.map,Function.comp_def]
 obtain ⟨A,c,σ',m,hy,hS,hn,hnc,hh⟩:=hs
 rw [skel_of hl] at hS
 injection hS with hS; injection hS with e1 e2; subst e1; subst e2
 have hlen:((l.drop off).take n).length=n:=by simp; omega
 obtain ⟨g1,g2,g3⟩:=hh
 have hsk:skel ((st.kill k').newK k (.row σ ((l.drop off).take n))).o k=some (.row σ n):=by
  have:=newK_sk (st.kill k') k σ ((l.drop off).take n)
  rw [hlen] at this; exact this
 rcases g3 with ⟨rfl,rfl⟩ | ⟨g,o,s',o',hm,rfl,g4,g5⟩
 ·have hr0:(l.drop off).take n=[]:=List.eq_nil_of_length_eq_zero (by omega)
  have hRk:=kill_ok hR k'
  have:=newK_ok hRk k hk2 (.row σ ((l.drop off).take n)) none (Fr.refl _ w) (fun q h=>by cases h) fun S' f _ _ _=>.inl ⟨upd_same _ _ _,hr0⟩
  exact ⟨_,this,⟨none,n,0,σ,hy,hsk,g1,g2,.inl ⟨rfl,rfl⟩⟩,fun b hb hb'=>⟨upd_ne _ _ hb,hbox b hb hb'⟩⟩
 ·rcases hR.ob k' _ hl with ⟨e,_⟩ | ⟨g',o2,s2,cur,ty,hm',hh,hsz,hle,hr⟩
  ·rw [hm] at e; cases e
  ·have hm2:=hm
   rw [hm] at hm'
   injection hm' with hm'; injection hm' with e1 e2; injection e2 with e2 e3; subst e1; subst e2; subst e3
   have hnle:n*σ.sz≤c*σ.sz:=Nat.mul_le_mul_right _ g1
   have:=appK_ok hR hk1 (skel_ne hl) rfl hm2 k hk2 σ ((l.drop off).take n) (w':=w) (some (g,o',s')) rfl rfl rfl (Nat.le_refl _) (fun _ _ _=>rfl) (fun q h=>by injection h with h; subst h; exact .inr rfl)
    (.inr ⟨g,o',s',cur,ty,rfl,hh,hsz,by rw [hlen]; omega,by
     rcases Nat.eq_zero_or_pos n with h0 | h0
     ·subst h0; rw [List.take_zero]; exact rowIs_nil _ _ _
     ·rw [g5 (by omega)]; exact rowIs_cut hr off n⟩)
   exact ⟨_,this,⟨some ⟨g,o',none⟩,n,c,σ,hy,hsk,g1,g2,.inr ⟨g,o',s',o',upd_same _ _ _,rfl,g4,fun _=>by simp⟩⟩,fun b hb hb'=>⟨upd_ne _ _ hb,hbox b hb hb'⟩⟩
theorem nstep_ok (hR:RepM N w0 M W [] μ st a w) {s:NStep} {st':St} (h:nstep st s=some st'):∃ μ',RepM N w0 M W [] μ' st' a w:=by
 have hnil:∀ k τ,k < 100000→RepM N w0 M W [] (upd μ k none) (st.newK k (.row τ [])) a w:=fun k τ hk=>
  newK_ok hR k hk (.row τ []) none (Fr.refl _ w) (fun q h=>by cases h) fun S' f _ _ _=>.inl ⟨upd_same _ _ _,rfl⟩
 have hnsk:∀ k τ,lkp (st.newK k (.row τ [])).o k=some (.row τ []):=fun k τ=>by
  unfold St.newK; split <;> exact lkp_cons_same _ _ _
 cases s with
 | own s τ k=>
  simp only [nstep] at h
  split at h
  ·exact ren_ok hR h
  ·exact ren_ok hR h
  ·rename_i k' off n hg
   split at h
   ·rename_i σ l hl hb1 hb2
    have hk1:k' < 100000:=by simpa using hb1
    have hk2:k < 100000:=by simpa using hb2
    injection h with h; subst h
    have hs:=hR.tm s
    rw [hg] at hs
    obtain ⟨μ',hR',hrc,_⟩:=ownSub_ok hR hl hk1 hk2 hs
    exact ⟨_,reput_ok hR' hrc⟩
   ·cases h
  ·rename_i hg
   split at h
   rotate_left
   ·cases h
   rename_i hb
   injection h with h; subst h
   have hs:=hR.tm s
   rw [hg] at hs
   exact ⟨_,reput_ok (hnil k τ (by simpa using hb)) ⟨none,0,0,τ,hs,skel_of (hnsk k τ),Nat.le_refl _,Nat.zero_le _,.inl ⟨rfl,rfl⟩⟩⟩
  ·cases h
 | ownc b j τ k=>
  simp only [nstep] at h
  split at h
  ·rename_i l hl
   split at h
   ·exact ren_ok hR h
   ·rename_i k' off n hj
    split at h
    ·rename_i σ r hl2 hb1 hb2 hbk hbk'
     split at h
     ·rename_i l' hl'
      split at h
      ·rename_i hjl
       have hjl:j < l'.length:=by simpa using hjl
       injection h with h; subst h
       obtain ⟨g,o,s,cur,ty,h1,h2,h3,h4,h5⟩:=hR.ob b _ hl
       obtain ⟨y,hy1,hy2,hy3⟩:=h5.get hj
       obtain ⟨μ',hR',hrc⟩:=ownSub_ok hR hl2 (by simpa using hb1) (by simpa using hb2) hy2
       refine ⟨μ',setO_ok hR' hl' (by simp [OB.sk]) rfl (.inl rfl) fun _=>?_⟩
       obtain ⟨g',o',s',cur',ty',q1,q2,q3,q4,q5⟩:=hR'.ob b _ hl'
       -- the box lies where it lay
       obtain ⟨e1,e2⟩:=hrc.2 b (fun e=>by subst e; rw [beq_refl] at hbk; cases hbk) (fun e=>by subst e; rw [beq_refl] at hbk'; cases hbk')
       rw [e1,h1] at q1
       injection q1 with q1; injection q1 with a1 a2; injection a2 with a2 a3; subst a1; subst a2; subst a3
       rw [h2] at q2
       injection q2 with q2; injection q2 with q2 _; subst q2
       have hll:l'.length=l.length:=by
        have:=e2 _ hl
        rw [hl'] at this; injection this with this; injection this with this
        rw [this,List.length_map]
       refine ⟨g,o,s,cur,ty,e1.trans h1,h2,h3,by simpa using q4,?_⟩
       rw [List.length_set]
       have hset:=RCs.set (c:=Go.Ev.C.ow k) hrc.1 hy3 j q5
       have hyy:(((cur.toList.drop o).take l'.length).set j y)=(cur.toList.drop o).take l'.length:=by
        rw [hll]
        obtain ⟨hlt,e⟩:=List.getElem?_eq_some_iff.1 hy1
        rw [← e]; exact List.set_getElem_self hlt
       rw [hyy] at hset
       exact hset
      ·cases h
     ·cases h
    ·cases h
   ·rename_i hj
    split at h
    ·rename_i l' hbk hb1 hl'
     injection h with h; subst h
     have hR':=hnil k τ (by simpa using hb1)
     -- the cell is nil there,too
     have hj':l'[j]?=some .nil:=by
      have hbk:b≠k:=fun e=>by subst e; rw [beq_refl] at hbk; cases hbk
      unfold St.newK at hl'
      split at hl'
      ·rw [lkp_cons_ne _ _ (Ne.symm hbk),hl] at hl'
       injection hl' with hl'; injection hl' with hl'
       rw [← hl']; exact hj
      ·rw [lkp_cons_ne _ _ (Ne.symm hbk),lkp_mapO,lkp_dropO_ne hbk,hl] at hl'
       injection hl' with hl'; injection hl' with hl'
       rw [← hl',List.getElem?_map,hj]; rfl
     refine ⟨_,setO_ok hR' hl' (by simp [OB.sk]) rfl (.inl rfl) fun _=>?_⟩
     obtain ⟨g,o,s,cur,ty,h1,h2,h3,h4,h5⟩:=hR'.ob b _ hl'
     refine ⟨g,o,s,cur,ty,h1,h2,h3,by simpa using h4,?_⟩
     rw [List.length_set]
     exact RCs.reset (c:=Go.Ev.C.ow k) (c0:=Go.Ev.C.nil) (fun y hy=>⟨none,0,0,τ,hy,skel_of (hnsk k τ),Nat.le_refl _,Nat.zero_le _,.inl ⟨rfl,rfl⟩⟩) h5 hj'
    ·cases h
   ·cases h
  ·cases h
 | frz s τ=>
  simp only [nstep] at h
  split at h
  ·exact ⟨μ,frz_ok hR h⟩
  ·exact ⟨μ,frz_ok hR h⟩
  ·rename_i hg
   injection h with h; subst h
   have hs:=hR.tm s
   rw [hg] at hs
   exact ⟨μ,reput_ok hR ⟨none,0,0,hs,⟨rfl,Nat.le_refl _,Nat.zero_le _,.inl ⟨rfl,rfl⟩⟩,fun h=>by omega⟩⟩
  ·injection h with h; subst h; exact ⟨μ,hR⟩
  ·cases h
 | frzc b j τ=>
  simp only [nstep] at h
  split at h
  ·rename_i l hl
   split at h
   ·exact ⟨μ,frz_ok hR h⟩
   ·exact ⟨μ,frz_ok hR h⟩
   ·rename_i hj
    injection h with h; subst h
    refine ⟨μ,setO_ok hR hl (by simp [OB.sk]) rfl (.inl rfl) fun _=>?_⟩
    obtain ⟨g,o,s,cur,ty,h1,h2,h3,h4,h5⟩:=hR.ob b _ hl
    refine ⟨g,o,s,cur,ty,h1,h2,h3,by simpa using h4,?_⟩
    rw [List.length_set]
    exact RCs.reset (c:=Go.Ev.C.ro τ []) (c0:=Go.Ev.C.nil) (fun y hy=>⟨none,0,0,hy,⟨rfl,Nat.le_refl _,Nat.zero_le _,.inl ⟨rfl,rfl⟩⟩,fun h=>(by omega)⟩) h5 hj
   ·injection h with h; subst h; exact ⟨μ,hR⟩
   ·cases h
  ·cases h
 | unr n=>cases h
 | keep ts os=>
  simp only [nstep] at h
  split at h
  ·rename_i o' ho'
   split at h
   ·injection h with h; subst h
    have h1:RepM N w0 M W [] μ ⟨keepT st ts,st.o⟩ a w:=view_ok hR (fun _=>rfl) fun i=>by
     rcases keepT_get st st.o ts i with e | e
     ·rw [e]; exact hR.tm i
     ·rw [e]; trivial
    have h2:=killAll_ok (otherKeys os st.o) h1
    obtain ⟨k1,k2⟩:=keepO_lkp ho'
    refine ⟨μ,view_ok h2 (fun k=>?_) h2.tm⟩
    by_cases hk:k∈os
    ·exact k1 k hk
    ·show lkp o' k=_
     rw [k2 k hk]
     refine (killAll_none _ _ k ?_).symm
     by_cases e:lkp st.o k=none
     ·exact .inl e
     ·exact .inr (otherKeys_mem e hk)
   ·cases h
  ·cases h
theorem norm_ok:∀ (ns:List NStep) {μ:Mu} {st st':St},RepM N w0 M W [] μ st a w→norm ns st=some st'→∃ μ',RepM N w0 M W [] μ' st' a w
 | [],μ,_,_,hR,h=>by injection h with h; subst h; exact ⟨μ,hR⟩
 | s :: ns,_,_,_,hR,h=>by
  unfold norm at h
  split at h
  ·rename_i st1 h1
   obtain ⟨μ1,hR1⟩:=nstep_ok hR h1
   exact norm_ok ns hR1 h
  ·cases h
end
end Go.Ev
