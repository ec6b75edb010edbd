/- What every law's frame wants: the program's own knobs,what an argument that came in reads as,and how a contract of a law becomes a call of it. No statement is proved here. -/
import Derived.Test.YtemhpncmhdcheabGreatDoorEvT
import Derived.Test.YtemhpncmhdcheabGreatDoorChecked
import Derived.RowKit3
import Derived.ChangeAt
import Derived.ChangeAt2
import Derived.ChangeReads
import Derived.ChangeShapes
import Derived.ChangeMaps
import Derived.OpenShut
import Derived.ShutString
import Derived.ChangeOld
import Derived.Below
import Derived.Carry
namespace Go.Proofs.YtemhpncmhdcheabGreatDoor
open Go.RowKit
theorem own:ownKnob Tryz.prog.godebug=none:=by kernel_rfl
theorem laidOut:laidOutB Tryz.prog=true:=by kernel_rfl
def Came (k:IntKind) (w:World) (a:Option Addr) (len cap:Nat) (zs:List Int):Prop:=
 (a=none∧len=0∧cap=0∧zs=[])∨
 ∃ x,a=some x∧len≤cap∧cap≤maxLen∧zs.length=cap∧(∀ i,i < zs.length→w.cell? (x.add i)=some (.int k (zs.getD i 0)))∧∀ n∈zs,(Lit.int k n).wf=true
open Go.Ev in
theorem Came.ro {w:World} {a:Option Addr} {len cap:Nat} {zs:List Int} (h:Came .u8 w a len cap zs):Ro w a len cap .u8 (zs.take len)∧∀ x∈zs.take len,0≤x∧x≤255:=by
 rcases h with ⟨rfl,rfl,rfl,rfl⟩ | ⟨x,rfl,hl,hm,hz,hc,hw⟩
 ·exact ⟨⟨rfl,Nat.le_refl _,Nat.zero_le _,.inl ⟨rfl,rfl⟩⟩,fun x hx=>by simp at hx⟩
 ·refine ⟨⟨by simp; omega,hl,hm,.inr ⟨x,rfl,fun h0=>?_⟩⟩,fun y hy=>?_⟩
  ·obtain ⟨b,o,spot⟩:=x
   have h:=hc 0 (by omega)
   have hs:spot=none:=by simpa [Addr.add] using World.cell?_spot h
   subst hs
   refine ⟨b,o,rfl,fun i y hy j z hz2=>?_⟩
   have hi:i < len:=by
    have:=(List.getElem?_eq_some_iff.1 hy).1
    simp at this; omega
   have h2:=hc i (by omega)
   rw [List.getElem?_take,if_pos hi] at hy
   have h3:zs.getD i 0=y:=by simp [List.getD,hy]
   rw [h3] at h2
   cases j with
   | zero=>
    have:z=.int .u8 y:=by simpa [Ty.enc] using hz2.symm
    subst this
    by_cases hi0:i=0
    ·subst hi0; simpa [Addr.add,Ty.sz] using h2
    ·simpa [Addr.add,Ty.sz,hi0] using h2
   | succ j=>simp [Ty.enc] at hz2
  ·have:=hw y (List.mem_of_mem_take hy)
   simp [Lit.wf,IntKind.min,IntKind.max,IntKind.signed,IntKind.bits] at this
   omega
def Law (w:World) (e:Ending) (w':World):Prop:=e=.returned (.bool true)∧Below w.heap.size w w'
end Go.Proofs.YtemhpncmhdcheabGreatDoor
