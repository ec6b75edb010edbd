/- Contracts of what is drawn: keys, lists, sketches, traces. No statement is proved here. -/
import Derived.Test.YtgnkidmljcpheadDraw
namespace Go.Proofs.Ytgnkidmljcphead
open Go.RowKit

theorem only_below {w w' : World} (h : Below w.heap.size w w') (row : Option Nat) : w.grownBy w' row := ⟨h.os, h.tape, h.output, h.size, fun i hi _ => h.block i hi⟩
theorem below_only {w w' : World} {B g : Nat} (h : w.grownBy w' (some g)) (hB : B ≤ g) (hB2 : B ≤ w.heap.size) : Below B w w' := ⟨h.os, h.tape, h.output, h.size, fun i hi => h.block i (by omega) (fun e => by injection e; omega)⟩
theorem only_drew {a w : World} {row : Option Nat} (h : a.grownBy w row) : a.grownBy w.drew row := ⟨h.os, h.tape, h.output, h.size, h.block⟩
/-- Below block B the world w' is as w was, but for block g. -/
structure Only (B g : Nat) (w w' : World) : Prop where
  os : w'.os = w.os
  tape : w'.tape = w.tape
  output : w'.output = w.output
  size : w.heap.size ≤ w'.heap.size
  block : ∀ k, k < B → k ≠ g → w'.heap[k]? = w.heap[k]?
section
variable {B g : Nat} {a w w' : World}
theorem Only.refl (B g : Nat) (w : World) : Only B g w w := ⟨rfl, rfl, rfl, Nat.le_refl _, fun _ _ _ => rfl⟩
theorem Only.trans {c : World} (h : Only B g a w) (k : Only B g w c) : Only B g a c := ⟨k.os.trans h.os, k.tape.trans h.tape, k.output.trans h.output, Nat.le_trans h.size k.size, fun i hi hn => (k.block i hi hn).trans (h.block i hi hn)⟩
theorem Only.pick (h : Only B g a w) (hg : w.grownBy w' (some g)) (hB : B ≤ w.heap.size) : Only B g a w' := h.trans ⟨hg.os, hg.tape, hg.output, hg.size, fun k hk hn => hg.block k (by omega) (fun e => hn (by injection e))⟩
theorem Only.below {S : Nat} (h : Only B g a w) (hb : Below S w w') (hB : B ≤ S) : Only B g a w' := h.trans ⟨hb.os, hb.tape, hb.output, hb.size, fun k hk _ => hb.block k (by omega)⟩
theorem Only.own {row : Option Nat} (h : Only B g a w) (hg : w.grownBy w' row) (hr : ∀ k, row = some k → B ≤ k) (hB : B ≤ w.heap.size) : Only B g a w' :=
  h.trans ⟨hg.os, hg.tape, hg.output, hg.size, fun k hk _ => hg.block k (by omega) (fun e => by have := hr k e.symm; omega)⟩
theorem Only.alloc (h : Only B g a w) (hB : B ≤ w.heap.size) (o : Obj) : Only B g a (w.alloc o) := h.own (World.grownBy_alloc w o none) (by simp) hB
theorem Only.setCell (h : Only B g a w) {p : Addr} (hp : B ≤ p.block) (u : Value) : Only B g a (w.setCell p u) :=
  h.trans ⟨rfl, rfl, rfl, by simp [World.setCell], fun k hk _ => Below.heap_setCell w p u k (by omega)⟩
theorem Only.drewN (h : Only B g a w) (q : Nat) : Only B g a (w.drewN q) := ⟨h.os, h.tape, h.output, h.size, h.block⟩
theorem Only.toBelow (h : Only B g a w) (hB : B ≤ g) : Below B a w := ⟨h.os, h.tape, h.output, h.size, fun k hk => h.block k hk (by omega)⟩
theorem Only.less {B' : Nat} (h : Only B g a w) (hB : B' ≤ B) : Only B' g a w := ⟨h.os, h.tape, h.output, h.size, fun k hk => h.block k (by omega)⟩
end

/-- Numbers that are small. -/
def Bd (l : List Int) : Prop := ∀ x ∈ l, -100000 ≤ x ∧ x ≤ 100000
theorem Bd.gi {l : List Int} (h : Bd l) {k : Nat} (hk : k < l.length) : -100000 ≤ gi l k ∧ gi l k ≤ 100000 := h _ (gi_mem hk)
theorem Bd.app {l r : List Int} (h : Bd l) (h' : Bd r) : Bd (l ++ r) := fun x hx => (List.mem_append.1 hx).elim (h x) (h' x)
theorem Bd.one {x : Int} (h : -100000 ≤ x ∧ x ≤ 100000) : Bd [x] := fun y hy => by simp at hy; subst hy; exact h
theorem Bd.drop {l : List Int} (h : Bd l) (k : Nat) : Bd (l.drop k) := fun x hx => h x (List.mem_of_mem_drop hx)
theorem Bd.take {l : List Int} (h : Bd l) (k : Nat) : Bd (l.take k) := fun x hx => h x (List.mem_of_mem_take hx)
theorem Bd.set {l : List Int} (h : Bd l) (k : Nat) {y : Int} (hy : -100000 ≤ y ∧ y ≤ 100000) : Bd (l.set k y) := fun x hx => by
  rcases List.mem_or_eq_of_mem_set hx with hx | rfl
  · exact h x hx
  · exact hy
theorem Bd.of_vsk {l : List Int} (h : vsk l = true) : Bd l := fun x hx => by have := allR_mem (vsk_all h) hx; omega

theorem lit_si (w : World) (l : List Int) (n : Nat) (hn : n = l.length) (hsz : l.length ≤ 1000000000000) (cs : Array Value) (hcs : cs = (ints l).toArray) :
    SI (w.alloc (.cells cs 3)) (w.heap.size + 1) (some ⟨w.heap.size, 0, none⟩) n n l :=
  (OI.lit w w.heap.size l n hn (Nat.le_refl _) hsz cs hcs).si.more (by simp)

end Go.Proofs.Ytgnkidmljcphead
