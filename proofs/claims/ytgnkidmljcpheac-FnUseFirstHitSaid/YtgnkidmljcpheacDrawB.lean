/- Contracts of what is drawn: keys, lists, sketches, traces. No statement is proved here. -/
import Derived.Test.YtgnkidmljcpheacDraw
namespace Go.Proofs.Ytgnkidmljcpheac
open Go.RowKit

theorem only_below {w w' : World} (h : Below w.heap.size w w') (row : Option Nat) : w.grownBy w' row := ⟨h.os, h.tape, h.output, h.size, fun i hi _ => h.block i hi⟩
theorem below_only {w w' : World} {B g : Nat} (h : w.grownBy w' (some g)) (hB : B ≤ g) (hB2 : B ≤ w.heap.size) : Below B w w' := ⟨h.os, h.tape, h.output, h.size, fun i hi => h.block i (by omega) (fun e => by injection e; omega)⟩
theorem only_drew {a w : World} {row : Option Nat} (h : a.grownBy w row) : a.grownBy w.drew row := ⟨h.os, h.tape, h.output, h.size, h.block⟩
/-- Below block B the world w' is as w was, but for block g. -/
structure Only (B g : Nat) (w w' : World) : Prop where
  os : w'.os = w.os
  tape : w'.tape = w.tape
  output : w'.output = w.output
  size : w.heap.size ≤ w'.heap.size
  block : ∀ k, k < B → k ≠ g → w'.heap[k]? = w.heap[k]?
section
variable {B g : Nat} {a w w' : World}
theorem Only.refl (B g : Nat) (w : World) : Only B g w w := ⟨rfl, rfl, rfl, Nat.le_refl _, fun _ _ _ => rfl⟩
theorem Only.trans {c : World} (h : Only B g a w) (k : Only B g w c) : Only B g a c := ⟨k.os.trans h.os, k.tape.trans h.tape, k.output.trans h.output, Nat.le_trans h.size k.size, fun i hi hn => (k.block i hi hn).trans (h.block i hi hn)⟩
theorem Only.pick (h : Only B g a w) (hg : w.grownBy w' (some g)) (hB : B ≤ w.heap.size) : Only B g a w' := h.trans ⟨hg.os, hg.tape, hg.output, hg.size, fun k hk hn => hg.block k (by omega) (fun e => hn (by injection e))⟩
theorem Only.below {S : Nat} (h : Only B g a w) (hb : Below S w w') (hB : B ≤ S) : Only B g a w' := h.trans ⟨hb.os, hb.tape, hb.output, hb.size, fun k hk _ => hb.block k (by omega)⟩
theorem Only.own {row : Option Nat} (h : Only B g a w) (hg : w.grownBy w' row) (hr : ∀ k, row = some k → B ≤ k) (hB : B ≤ w.heap.size) : Only B g a w' :=
  h.trans ⟨hg.os, hg.tape, hg.output, hg.size, fun k hk _ => hg.block k (by omega) (fun e => by have := hr k e.symm; omega)⟩
theorem Only.alloc (h : Only B g a w) (hB : B ≤ w.heap.size) (o : Obj) : Only B g a (w.alloc o) := h.own (World.grownBy_alloc w o none) (by simp) hB
theorem Only.setCell (h : Only B g a w) {p : Addr} (hp : B ≤ p.block) (u : Value) : Only B g a (w.setCell p u) :=
  h.trans ⟨rfl, rfl, rfl, by simp [World.setCell], fun k hk _ => Below.heap_setCell w p u k (by omega)⟩
theorem Only.drewN (h : Only B g a w) (q : Nat) : Only B g a (w.drewN q) := ⟨h.os, h.tape, h.output, h.size, h.block⟩
theorem Only.toBelow (h : Only B g a w) (hB : B ≤ g) : Below B a w := ⟨h.os, h.tape, h.output, h.size, fun k hk => h.block k hk (by omega)⟩
theorem Only.less {B' : Nat} (h : Only B g a w) (hB : B' ≤ B) : Only B' g a w := ⟨h.os, h.tape, h.output, h.size, fun k hk => h.block k (by omega)⟩
end

/-- Numbers that are small. -/
def Bd (l : List Int) : Prop := ∀ x ∈ l, -100000 ≤ x ∧ x ≤ 100000
theorem Bd.gi {l : List Int} (h : Bd l) {k : Nat} (hk : k < l.length) : -100000 ≤ gi l k ∧ gi l k ≤ 100000 := h _ (gi_mem hk)
theorem Bd.app {l r : List Int} (h : Bd l) (h' : Bd r) : Bd (l ++ r) := fun x hx => (List.mem_append.1 hx).elim (h x) (h' x)
theorem Bd.one {x : Int} (h : -100000 ≤ x ∧ x ≤ 100000) : Bd [x] := fun y hy => by simp at hy; subst hy; exact h
theorem Bd.drop {l : List Int} (h : Bd l) (k : Nat) : Bd (l.drop k) := fun x hx => h x (List.mem_of_mem_drop hx)
theorem Bd.take {l : List Int} (h : Bd l) (k : Nat) : Bd (l.take k) := fun x hx => h x (List.mem_of_mem_take hx)
theorem Bd.set {l : List Int} (h : Bd l) (k : Nat) {y : Int} (hy : -100000 ≤ y ∧ y ≤ 100000) : Bd (l.set k y) := fun x hx => by
  rcases List.mem_or_eq_of_mem_set hx with hx | rfl
  · exact h x hx
  · exact hy
theorem Bd.of_vsk {l : List Int} (h : vsk l = true) : Bd l := fun x hx => by have := allR_mem (vsk_all h) hx; omega

/-- A number within bounds was drawn. -/
def DrawsI (w : World) (g p d : Nat) (lo hi : Int) (e : Ending) (w' : World) : Prop :=
  ∃ (x : Int) (p' : Nat), e = .returned (.int .i64 x) ∧ lo ≤ x ∧ x ≤ hi ∧ Rdr w' g p' ∧ p' ≤ p + d ∧ Only w.heap.size g w w'
/-- A list of at most K small numbers was drawn, in new memory. -/
def DrawsL (w : World) (g p d K : Nat) (e : Ending) (w' : World) : Prop :=
  ∃ (A : Option Addr) (n c : Nat) (l : List Int) (p' : Nat), e = .returned (.slice A n c) ∧ OI w' w.heap.size A n c l ∧ n ≤ K ∧ Bd l ∧ Rdr w' g p' ∧ p' ≤ p + d ∧ Only w.heap.size g w w'

theorem lit_si (w : World) (l : List Int) (n : Nat) (hn : n = l.length) (hsz : l.length ≤ 1000000000000) (cs : Array Value) (hcs : cs = (ints l).toArray) :
    SI (w.alloc (.cells cs 3)) (w.heap.size + 1) (some ⟨w.heap.size, 0, none⟩) n n l :=
  (OI.lit w w.heap.size l n hn (Nat.le_refl _) hsz cs hcs).si.more (by simp)

theorem someKey_c (g p : Nat) (w : World) (h : Rdr w g p) (hp : p ≤ 500000000) :
    Calls Try.prog 48 #[.pointer (some ⟨g, 0, none⟩)] w (DrawsI w g p 4 (-1) 32) := by
  have hlt := h.lt
  go_enter Try.func48, Try.ntmps48
  go_wp2_with fail
  refine (pick_c g p 8 w h (by omega)).mono ?_
  rintro e w1 ⟨q1, rfl, hq1, hq1', hr1, hg1, -⟩
  go_wp2_with fail
  refine (pick_c g _ 8 w1 hr1 (by omega)).mono ?_
  rintro e w2 ⟨q2, rfl, hq2, hq2', hr2, hg2, -⟩
  go_wp2_with fail
  refine (pick_c g _ 32 w2 hr2 (by omega)).mono ?_
  rintro e w3 ⟨q3, rfl, hq3, hq3', hr3, hg3, -⟩
  have z1 := hg1.size
  have z2 := hg2.size
  have z3 := hg3.size
  go_wp2_with fail
  refine (one_c g _ _ _ _ [0, 1, 2, 3, 5, 31, 32, -1, q1, q2, q3, 4] _ _ (hr3.alloc _) (by omega) (lit_si w3 _ 12 rfl (by simp) _ rfl) (by simp) (fun b hb => by simp [blk] at hb; intro e; injection e; omega) (by omega)).mono ?_
  rintro e w4 ⟨x, rfl, hx, hr4, hg4, -⟩
  go_wp2_with fail
  go_ret
  refine ⟨x, _, rfl, ?_, ?_, hr4, by omega, (((((Only.refl _ _ _).pick hg1 (Nat.le_refl _)).pick hg2 (by omega)).pick hg3 (by omega)).alloc (by omega) _).pick hg4 (by simp; omega)⟩
  all_goals
    simp only [List.mem_cons, List.not_mem_nil, or_false] at hx
    omega


/-- One of a literal list. -/
theorem oneLit (g p : Nat) (l : List Int) (n : Nat) (w : World) (h : Rdr w g p) (hp : p ≤ 1000000000) (hn : n = l.length) (h1 : 1 ≤ n) (hsz : l.length ≤ 1000) (cs : Array Value) (hcs : cs = (ints l).toArray) (b : Nat) (hb : b = w.heap.size) :
    Calls Try.prog 64 #[.pointer (some ⟨g, 0, none⟩), .slice (some ⟨b, 0, none⟩) n n] (w.alloc (.cells cs 3)) (Ones (w.alloc (.cells cs 3)) g p l) := by
  subst hb
  exact one_c g p _ _ _ l _ _ (h.alloc _) hp (lit_si w l n hn (by omega) _ hcs) (by simp) (fun b hb => by have := h.lt; simp [blk] at hb; intro e; injection e; omega) h1

set_option maxRecDepth 100000 in
set_option maxHeartbeats 1000000 in
theorem spoil_c (g p : Nat) (A : Option Addr) (n c : Nat) (l : List Int) (k : Int) (w : World) (h : Rdr w g p) (hp : p ≤ 500000000) (hs : SI w w.heap.size A n c l) (hb : Bd l) (hn : n ≤ 1000) (hk0 : -100000 ≤ k) (hk1 : k ≤ 100000) :
    Calls Try.prog 62 #[.pointer (some ⟨g, 0, none⟩), .slice A n c, .int .i64 k] w (DrawsL w g p 3 (n + 1)) := by
  have hlt := h.lt
  go_enter Try.func62, Try.ntmps62
  go_wp2_with fail
  refine (copyInts_c _ _ _ l _ hs (by omega)).mono ?_
  rintro e w1 ⟨A1, n1, c1, rfl, hO1, hb1⟩
  obtain rfl : n1 = n := by rw [hO1.len, hs.len]
  have z1 := hb1.size
  have hc1 := hO1.le
  have hm1 := hO1.si.max
  go_wp2_with fail
  refine (pick_c g p 20 w1 (h.below hb1) (by omega)).mono ?_
  rintro e w2 ⟨q, rfl, hq0, hq1, hr2, hg2, -⟩
  have z2 := hg2.size
  have hne : blk A1 ≠ some g := fun e => by have := (hO1.lt g e).1; omega
  have hO2 := hO1.far hg2 (.inr hne)
  have hw2 : Only w.heap.size g w w2 := ((Only.refl _ _ _).below hb1 (Nat.le_refl _)).pick hg2 (by omega)
  have hfar : ∀ b, blk A1 = some b → w.heap.size ≤ b := fun b hb => (hO1.lt b hb).1
  by_cases e0 : q = 0
  · subst e0
    go_wp2_with (at_builtin; refine wpList_app rfl _ _ _ rfl Try.underlying23 rfl rfl (hO2.alloc _) (SI.one _ _) (by omega) (by simp; omega) ?_; intro A3 c3 w3 hO3 hg3 hat3)
    go_ret
    exact ⟨_, _, _, _, _, rfl, hO3, by omega, hb.app (Bd.one ⟨hk0, hk1⟩), (hr2.alloc _).far hg3 (fun b hb => by have := hfar b hb; omega), by omega, (hw2.alloc (by omega) _).own hg3 hfar (by simp; omega)⟩
  · have d0 : (q == 0) = false := by simpa using e0
    by_cases e1 : q = 1
    · subst e1
      by_cases hn0 : n1 = 0
      · subst hn0
        go_wp2
        go_ret
        exact ⟨_, _, _, _, _, rfl, hO2, by omega, hb, hr2, by omega, hw2⟩
      · obtain ⟨b, o, rfl, hbB, -, -⟩ := hO2.at_ (k := 0) (by omega)
        by_cases hc1 : c1 = 1
        · subst hc1
          obtain rfl : n1 = 1 := by omega
          go_wp2
          go_ret
          exact ⟨_, _, _, _, _, rfl, hO2.cut (i := 1) (j := 1) (by omega) (by omega) (fun _ => rfl) (fun h => absurd rfl h), by omega, (hb.drop 1).take _, hr2, by omega, hw2⟩
        · go_wp2
          go_ret
          have hcut := hO2.cut (i := 1) (j := n1) (A' := some ⟨b, o + 1, none⟩) (by omega) (Nat.le_refl _) (fun h => absurd h hc1) (fun _ => by simp [Addr.add])
          exact ⟨_, _, _, _, _, rfl, hcut, by omega, (hb.drop 1).take _, hr2, by omega, hw2⟩
    · have d1 : (q == 1) = false := by simpa using e1
      by_cases e2 : q = 2
      · subst e2
        by_cases hn0 : n1 = 0
        · subst hn0
          go_wp2
          go_ret
          exact ⟨_, _, _, _, _, rfl, hO2, by omega, hb, hr2, by omega, hw2⟩
        · go_wp2_with fail
          refine (pick_c g _ n1 w2 hr2 (by omega)).mono ?_
          rintro e w3 ⟨t, rfl, ht0, ht1, hr3, hg3, -⟩
          have z3 := hg3.size
          obtain ⟨j, rfl⟩ := Int.eq_ofNat_of_zero_le ht0
          have hj : j < n1 := by omega
          have hO3 := hO2.far hg3 (.inr hne)
          go_wp2_with fail
          refine (oneLit g _ [-1, k, 0, 1] 4 w3 hr3 (by omega) rfl (by omega) (by simp) _ rfl _ (by simp)).mono ?_
          rintro e w4 ⟨x, rfl, hx, hr4, hg4, -⟩
          have z4 := hg4.size
          have hO4 := (hO3.alloc (.cells #[.int .i64 (-1), .int .i64 k, .int .i64 0, .int .i64 1] 3)).far hg4 (.inr hne)
          obtain ⟨b, o, rfl, hbB, hcell, hfr⟩ := hO4.at_ hj
          have hxb : -100000 ≤ x ∧ x ≤ 100000 := by
            simp only [List.mem_cons, List.not_mem_nil, or_false] at hx; omega
          have hne' : b ≠ g := fun e => hne (by rw [e]; rfl)
          go_wp2
          go_ret
          refine ⟨_, _, _, _, _, rfl, hO4.store hj x, by omega, hb.set _ hxb, hr4.keep fun q hq => Below.heap_setCell w4 _ _ q (by show q ≠ b; omega), by omega, (((hw2.pick hg3 (by omega)).alloc (by omega) _).pick hg4 (by simp; omega)).setCell hbB _⟩
      · have d2 : (q == 2) = false := by simpa using e2
        go_wp2
        go_ret
        exact ⟨_, _, _, _, _, rfl, hO2, by omega, hb, hr2, by omega, hw2⟩

end Go.Proofs.Ytgnkidmljcpheac
