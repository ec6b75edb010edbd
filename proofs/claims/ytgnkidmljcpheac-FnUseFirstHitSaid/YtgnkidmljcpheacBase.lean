/- How slices of ints stand in memory (read: SI; owned by the call: OI), how they are kept from world to world, and the laws on append and make in these words. No statement is proved here. -/
import Derived.Test.YtgnkidmljcpheacRows
import Derived.WalkKit
import Derived.ProofKit
import Derived.Lib.Hide
import Derived.BigQuiet
import Derived.Deep.QuietTactic
import Derived.WalkLawsBesides
import Derived.WalkSpells
import Derived.Maps.AppendAt
import Derived.Deep.AppendLies
import Derived.Deep.LoopGhost
import Derived.Deep.DeepCutAuto
import Derived.Deep.Draws
import Derived.Laws.CopyOwn
import Derived.Deep.RegionLaw
namespace Go.Proofs.Ytgnkidmljcpheac
open Go.RowKit

/-- The number at a place of a list; 0 behind its end. -/
def gi (l : List Int) (k : Nat) : Int := l.getD k 0
def ints (l : List Int) : List Value := l.map (Value.int .i64)

theorem gi_cons_zero (x : Int) (l : List Int) : gi (x :: l) 0 = x := rfl
theorem gi_cons_succ (x : Int) (l : List Int) (k : Nat) : gi (x :: l) (k + 1) = gi l k := by simp [gi]
theorem gi_append_left {l r : List Int} {k : Nat} (h : k < l.length) : gi (l ++ r) k = gi l k := by simp [gi, List.getD, List.getElem?_append_left h]
theorem gi_append_right {l r : List Int} {k : Nat} (h : l.length ≤ k) : gi (l ++ r) k = gi r (k - l.length) := by simp [gi, List.getD, List.getElem?_append_right h]
theorem gi_drop (l : List Int) (k i : Nat) : gi (l.drop k) i = gi l (k + i) := by simp [gi, List.getD, List.getElem?_drop]
theorem gi_take {l : List Int} {k i : Nat} (h : i < k) : gi (l.take k) i = gi l i := by simp [gi, List.getD, h]
theorem gi_mem {l : List Int} {k : Nat} (h : k < l.length) : gi l k ∈ l := by
  simp only [gi, List.getD, List.getElem?_eq_getElem h, Option.getD_some]; exact List.getElem_mem h
theorem getElem?_gi {l : List Int} {k : Nat} (h : k < l.length) : l[k]? = some (gi l k) := by
  simp only [gi, List.getD, List.getElem?_eq_getElem h, Option.getD_some]
theorem ext_gi {l r : List Int} (hl : l.length = r.length) (h : ∀ i, i < l.length → gi l i = gi r i) : l = r := by
  apply List.ext_getElem? ; intro i
  rcases Nat.lt_or_ge i l.length with hi | hi
  · rw [getElem?_gi hi, getElem?_gi (hl ▸ hi), h i hi]
  · rw [List.getElem?_eq_none hi, List.getElem?_eq_none (hl ▸ hi)]
theorem take_succ_gi {l : List Int} {k : Nat} (h : k < l.length) : l.take (k + 1) = l.take k ++ [gi l k] := by
  rw [List.take_add_one, getElem?_gi h]; rfl
theorem drop_gi {l : List Int} {k : Nat} (h : k < l.length) : l.drop k = gi l k :: l.drop (k + 1) := by
  rw [List.drop_eq_getElem_cons h]; congr 1; simp [gi, List.getD, List.getElem?_eq_getElem h]
theorem mem_gi {l : List Int} {x : Int} (h : x ∈ l) : ∃ k, k < l.length ∧ gi l k = x := by
  obtain ⟨k, hk, e⟩ := List.getElem_of_mem h
  exact ⟨k, hk, by simp [gi, List.getD, List.getElem?_eq_getElem hk, e]⟩
theorem gi_set {l : List Int} {k i : Nat} (x : Int) (h : k < l.length) : gi (l.set k x) i = if i = k then x else gi l i := by
  simp only [gi, List.getD, List.getElem?_set]
  by_cases e : k = i
  · subst e; simp [h]
  · simp [e, Ne.symm e]

/-- The slice with address A, length n, capacity c reads in world w as the ints l, in a block below B. -/
def SI (w : World) (B : Nat) (A : Option Addr) (n c : Nat) (l : List Int) : Prop :=
  n = l.length ∧ n ≤ c ∧ c ≤ maxLen ∧ ((A = none ∧ c = 0) ∨ ∃ a, A = some a ∧ (0 < n → ∃ b o, a = ⟨b, o, none⟩ ∧ b < B ∧ ∀ i, i < n → w.cell? ⟨b, o + i, none⟩ = some (.int .i64 (gi l i))))

/-- The slice with address A, length n, capacity c is the call's own, in a block of ints from B on, and reads as l. -/
def OI (w : World) (B : Nat) (A : Option Addr) (n c : Nat) (l : List Int) : Prop :=
  n = l.length ∧ n ≤ c ∧ c ≤ maxLen ∧ ((A = none ∧ c = 0) ∨ ∃ g o cur, A = some ⟨g, o, none⟩ ∧ B ≤ g ∧ w.heap[g]? = some (.cells cur 3 (0, 0)) ∧ o + c ≤ cur.size ∧ ∀ i, i < n → cur[o + i]? = some (.int .i64 (gi l i)))

/-- The block of an address. -/
def blk : Option Addr → Option Nat
  | some a => some a.block
  | none => none

section
variable {w w' : World} {B B' : Nat} {A : Option Addr} {n c : Nat} {l : List Int}

theorem SI.at_ (h : SI w B A n c l) {k : Nat} (hk : k < n) : ∃ b o, A = some ⟨b, o, none⟩ ∧ b < B ∧ w.cell? ⟨b, o + k, none⟩ = some (.int .i64 (gi l k)) := by
  obtain ⟨_, hc, _, ⟨_, h0⟩ | ⟨a, rfl, ha⟩⟩ := h
  · omega
  · obtain ⟨b, o, rfl, hb, hcell⟩ := ha (by omega)
    exact ⟨b, o, rfl, hb, hcell k hk⟩
theorem SI.len (h : SI w B A n c l) : n = l.length := h.1
theorem SI.le (h : SI w B A n c l) : n ≤ c := h.2.1
theorem SI.max (h : SI w B A n c l) : c ≤ 9223372036854775807 := by have := h.2.2.1; simpa [maxLen] using this
theorem SI.keep (h : SI w B A n c l) (hk : ∀ p : Addr, p.block < B → w'.cell? p = w.cell? p) : SI w' B A n c l := by
  obtain ⟨h1, h2, h3, h4⟩ := h
  refine ⟨h1, h2, h3, ?_⟩
  rcases h4 with h4 | ⟨a, rfl, ha⟩
  · exact .inl h4
  · refine .inr ⟨a, rfl, fun hn => ?_⟩
    obtain ⟨b, o, rfl, hb, hc⟩ := ha hn
    exact ⟨b, o, rfl, hb, fun i hi => (hk ⟨b, o + i, none⟩ hb).trans (hc i hi)⟩
theorem SI.more (h : SI w B A n c l) (hB : B ≤ B') : SI w B' A n c l := by
  obtain ⟨h1, h2, h3, h4⟩ := h
  refine ⟨h1, h2, h3, ?_⟩
  rcases h4 with h4 | ⟨a, rfl, ha⟩
  · exact .inl h4
  · refine .inr ⟨a, rfl, fun hn => ?_⟩
    obtain ⟨b, o, rfl, hb, hc⟩ := ha hn
    exact ⟨b, o, rfl, by omega, hc⟩
theorem SI.below (h : SI w B A n c l) (hb : Below B w w') : SI w' B A n c l := h.keep fun _ hp => hb.cell hp
theorem SI.drewN (h : SI w B A n c l) (k : Nat) : SI (w.drewN k) B A n c l := h
theorem SI.drew (h : SI w B A n c l) : SI w.drew B A n c l := h
theorem SI.alloc (h : SI w B A n c l) (hB : B ≤ w.heap.size) (o : Obj) : SI (w.alloc o) B A n c l := h.keep fun p hp => World.cell?_alloc_lt w o p (by omega)
theorem SI.setCell (h : SI w B A n c l) {p : Addr} (hB : B ≤ p.block) (u : Value) : SI (w.setCell p u) B A n c l :=
  h.keep fun q hq => World.cell?_setCell_other w p q u (fun e => by subst e; omega)
theorem SI.grown (h : SI w B A n c l) {row : Option Nat} (hg : w.grownBy w' row) (hB : B ≤ w.heap.size) (hr : ∀ g, row = some g → B ≤ g) : SI w' B A n c l :=
  h.keep fun p hp => World.cell?_of_block (hg.block p.block (by omega) (fun e => by have := hr _ e.symm; omega))
/-- 's[i:j]' reads as the part. -/
theorem SI.cut (h : SI w B A n c l) {i j : Nat} (hi : i ≤ j) (hj : j ≤ n) {A' : Option Addr} (h1 : c = i → A' = A) (h2 : c ≠ i → A' = A.map (·.add i)) : SI w B A' (j - i) (c - i) ((l.drop i).take (j - i)) := by
  obtain ⟨e1, e2, e3, e4⟩ := h
  have hlen : j - i = ((l.drop i).take (j - i)).length := by simp; omega
  refine ⟨hlen, by omega, by omega, ?_⟩
  rcases e4 with ⟨rfl, hc⟩ | ⟨a, rfl, ha⟩
  · exact .inl ⟨by by_cases e : c = i; · exact h1 e
                   · exact h2 e, by omega⟩
  · by_cases e : c = i
    · have e' := h1 e
      clear h1 h2
      have hno : ¬ 0 < j - i := by clear ha e'; omega
      exact .inr ⟨a, e', fun hn => absurd hn hno⟩
    · have e' := h2 e
      clear h1 h2
      refine .inr ⟨a.add i, e', fun hn => ?_⟩
      have hp : 0 < n := by clear ha e'; omega
      obtain ⟨b, o, rfl, hb, hcell⟩ := ha hp
      clear e'
      refine ⟨b, o + i, by rw [Addr.add_lit], hb, fun k hk => ?_⟩
      rw [Nat.add_assoc, hcell (i + k) (by omega), gi_take hk, gi_drop]

theorem OI.si (h : OI w B A n c l) : SI w w.heap.size A n c l := by
  obtain ⟨h1, h2, h3, h4⟩ := h
  refine ⟨h1, h2, h3, ?_⟩
  rcases h4 with h4 | ⟨g, o, cur, rfl, hB, hg, hs, hc⟩
  · exact .inl h4
  · exact .inr ⟨_, rfl, fun _ => ⟨g, o, rfl, (Array.getElem?_eq_some_iff.1 hg).1, fun i hi => by rw [cell_of_row w g (o + i) cur _ (0, 0) hg]; exact hc i hi⟩⟩
theorem OI.len (h : OI w B A n c l) : n = l.length := h.1
theorem OI.le (h : OI w B A n c l) : n ≤ c := h.2.1
theorem OI.lt (h : OI w B A n c l) : ∀ k, blk A = some k → B ≤ k ∧ k < w.heap.size := by
  intro k hk
  rcases h.2.2.2 with ⟨rfl, _⟩ | ⟨g, o, cur, rfl, hB, hg, _⟩
  · cases hk
  · cases hk; exact ⟨hB, (Array.getElem?_eq_some_iff.1 hg).1⟩
theorem OI.keep (h : OI w B A n c l) (hk : ∀ g, blk A = some g → g < w.heap.size → w'.heap[g]? = w.heap[g]?) : OI w' B A n c l := by
  obtain ⟨h1, h2, h3, h4⟩ := h
  refine ⟨h1, h2, h3, ?_⟩
  rcases h4 with h4 | ⟨g, o, cur, rfl, hB, hg, hs, hc⟩
  · exact .inl h4
  · exact .inr ⟨g, o, cur, rfl, hB, (hk g rfl (Array.getElem?_eq_some_iff.1 hg).1).trans hg, hs, hc⟩
theorem OI.less (h : OI w B A n c l) (hB : B' ≤ B) : OI w B' A n c l := by
  obtain ⟨h1, h2, h3, h4⟩ := h
  refine ⟨h1, h2, h3, ?_⟩
  rcases h4 with h4 | ⟨g, o, cur, rfl, hb, hg, hs, hc⟩
  · exact .inl h4
  · exact .inr ⟨g, o, cur, rfl, by omega, hg, hs, hc⟩
theorem OI.below (h : OI w B A n c l) (hb : Below w.heap.size w w') : OI w' B A n c l := h.keep fun g _ hg => hb.block g hg
theorem OI.drewN (h : OI w B A n c l) (k : Nat) : OI (w.drewN k) B A n c l := h
theorem OI.alloc (h : OI w B A n c l) (o : Obj) : OI (w.alloc o) B A n c l := h.keep fun g _ hg => Below.heap_alloc w o g hg
theorem OI.far (h : OI w B A n c l) {row : Option Nat} (hg : w.grownBy w' row) (hne : blk A = none ∨ blk A ≠ row) : OI w' B A n c l :=
  h.keep fun g hb hlt => hg.block g hlt (fun e => by rcases hne with hne | hne <;> rw [hb] at hne <;> first | cases hne | exact hne e)
theorem OI.nil_ (w : World) (B : Nat) : OI w B none 0 0 [] := ⟨rfl, Nat.le_refl _, Nat.zero_le _, .inl ⟨rfl, rfl⟩⟩
theorem OI.setFar (h : OI w B A n c l) {p : Addr} (hp : blk A ≠ some p.block) (u : Value) : OI (w.setCell p u) B A n c l :=
  h.keep fun g hb _ => Below.heap_setCell w p u g (fun e => hp (by rw [hb, e]))
/-- What a make, a literal or an append gives, in these words. -/
theorem OI.of_own (h : w.ownsRow B 3 1 (.slice A n c) n (ints l)) : OI w B A n c l := by
  obtain ⟨hl, h2⟩ := h
  have hn : n = l.length := by simpa [ints] using hl.symm
  rcases h2 with ⟨hv, h0⟩ | ⟨g, cap, cur, hv, hb, hg, hnc, hm, hs, ht⟩
  · injection hv with e1 e2 e3; subst e1; subst e3; exact ⟨hn, by omega, by simp [maxLen], .inl ⟨rfl, rfl⟩⟩
  · injection hv with e1 e2 e3; subst e1; subst e3
    refine ⟨hn, hnc, hm, .inr ⟨g, 0, cur, rfl, hb, hg, by omega, fun i hi => ?_⟩⟩
    have hi' : i < (ints l).length := by simp [ints]; omega
    have e : (cur.toList.take (n * 1))[i]? = (ints l)[i]? := by rw [ht]
    rw [List.getElem?_take, if_pos (by omega)] at e
    simp only [Nat.zero_add]
    rw [← Array.getElem?_toList, e]
    simp only [ints, List.getElem?_map, getElem?_gi (show i < l.length by omega), Option.map_some]
/-- 's[i:j]' of an owned slice is owned. -/
theorem OI.cut (h : OI w B A n c l) {i j : Nat} (hi : i ≤ j) (hj : j ≤ n) {A' : Option Addr} (h1 : c = i → A' = A) (h2 : c ≠ i → A' = A.map (·.add i)) : OI w B A' (j - i) (c - i) ((l.drop i).take (j - i)) := by
  obtain ⟨e1, e2, e3, e4⟩ := h
  have hlen : j - i = ((l.drop i).take (j - i)).length := by simp; omega
  refine ⟨hlen, by omega, by omega, ?_⟩
  rcases e4 with ⟨rfl, hc⟩ | ⟨g, o, cur, rfl, hb, hg, hs, hcell⟩
  · exact .inl ⟨by by_cases e : c = i; · exact h1 e
                   · exact h2 e, by omega⟩
  · refine .inr ?_
    by_cases e : c = i
    · exact ⟨g, o, cur, h1 e, hb, hg, by omega, fun k hk => by omega⟩
    · refine ⟨g, o + i, cur, ?_, hb, hg, by omega, fun k hk => ?_⟩
      · rw [h2 e]; simp [Addr.add]
      · rw [Nat.add_assoc, hcell (i + k) (by omega), gi_take hk, gi_drop]
/-- A cell of an owned slice: it reads, it is not frozen. -/
theorem OI.at_ (h : OI w B A n c l) {k : Nat} (hk : k < n) : ∃ g o, A = some ⟨g, o, none⟩ ∧ B ≤ g ∧ w.cell? ⟨g, o + k, none⟩ = some (.int .i64 (gi l k)) ∧ w.frozen? ⟨g, o + k, none⟩ = false := by
  obtain ⟨_, hc, _, ⟨_, h0⟩ | ⟨g, o, cur, rfl, hB, hg, hs, hcell⟩⟩ := h
  · omega
  · exact ⟨g, o, rfl, hB, by rw [cell_of_row w g (o + k) cur _ (0, 0) hg]; exact hcell k hk, frozen_of_row w g (o + k) cur _ hg⟩
/-- A store into an owned slice. -/
theorem OI.store {g o : Nat} (h : OI w B (some ⟨g, o, none⟩) n c l) {k : Nat} (hk : k < n) (x : Int) : OI (w.setCell ⟨g, o + k, none⟩ (.int .i64 x)) B (some ⟨g, o, none⟩) n c (l.set k x) := by
  obtain ⟨e1, e2, e3, ⟨h0, _⟩ | ⟨g', o', cur, he, hB, hg, hs, hcell⟩⟩ := h
  · cases h0
  · injection he with he; injection he with he1 he2; subst he1; subst he2
    refine ⟨by simpa using e1, e2, e3, .inr ⟨g, o, cur.setIfInBounds (o + k) (.int .i64 x), rfl, hB, heap_setCell_same w g (o + k) cur _ _ hg, by simpa using hs, fun i hi => ?_⟩⟩
    rw [Array.getElem?_setIfInBounds, gi_set x (by omega)]
    by_cases e : i = k
    · subst e; simp; omega
    · rw [if_neg (by omega), if_neg e, hcell i hi]
end

/-- The row of the type int in the program's table. -/
theorem int_info : (Try.prog.info? 3).map (fun i => (i.zero, i.size, i.bytes)) = some (some (.int .i64 0), 1, 8) := by kernel_rfl

theorem ints_one (l : List Int) : ∀ u ∈ ints l, u.oneCell' = true := by
  intro u hu
  obtain ⟨_, _, rfl⟩ := List.mem_map.1 hu
  rfl
theorem ints_len (l : List Int) : (ints l).length = l.length := by simp [ints]
theorem ints_get {l : List Int} {j : Nat} {u : Value} (h : (ints l)[j]? = some u) : j < l.length ∧ u = .int .i64 (gi l j) := by
  have hj : j < l.length := by have := (List.getElem?_eq_some_iff.1 h).1; simpa [ints] using this
  refine ⟨hj, ?_⟩
  simp only [ints, List.getElem?_map, getElem?_gi hj, Option.map_some] at h
  injection h with h; exact h.symm
theorem ints_append (l r : List Int) : ints l ++ ints r = ints (l ++ r) := by simp [ints]

theorem heap_setCells (b : Nat) : ∀ (vs : List Value) (o : Nat) (w : World), (w.setCells b o vs).heap.size = w.heap.size ∧ (∀ k, k ≠ b → (w.setCells b o vs).heap[k]? = w.heap[k]?) ∧
    (w.setCells b o vs).os = w.os ∧ (w.setCells b o vs).tape = w.tape ∧ (w.setCells b o vs).output = w.output ∧
    ∀ cur t, w.heap[b]? = some (.cells cur t (0, 0)) → ∃ cur', (w.setCells b o vs).heap[b]? = some (.cells cur' t (0, 0)) ∧ cur'.size = cur.size ∧
      (∀ i, (i < o ∨ o + vs.length ≤ i) → cur'[i]? = cur[i]?) ∧ ∀ j, j < vs.length → o + j < cur.size → cur'[o + j]? = vs[j]?
  | [], o, w => ⟨rfl, fun _ _ => rfl, rfl, rfl, rfl, fun cur t h => ⟨cur, h, rfl, fun _ _ => rfl, fun j hj => by simp at hj⟩⟩
  | v :: vs, o, w => by
    obtain ⟨h1, h2, h3, h4, h5, h6⟩ := heap_setCells b vs (o + 1) (w.setCell ⟨b, o, none⟩ v)
    refine ⟨by rw [World.setCells, h1]; simp [World.setCell], fun k hk => by rw [World.setCells, h2 k hk]; exact Below.heap_setCell w ⟨b, o, none⟩ v k hk, h3, h4, h5, fun cur t hc => ?_⟩
    obtain ⟨cur', g1, g2, g3, g4⟩ := h6 _ t (heap_setCell_same w b o cur t v hc)
    refine ⟨cur', g1, by simpa using g2, fun i hi => ?_, fun j hj hlt => ?_⟩
    · rw [g3 i (by simp at hi; omega), Array.getElem?_setIfInBounds, if_neg (by simp at hi; omega)]
    · rcases j with _ | j
      · rw [g3 (o + 0) (by omega), Array.getElem?_setIfInBounds]; simp; omega
      · have := g4 j (by simpa using hj) (by simp; omega)
        rw [show o + (j + 1) = o + 1 + j by omega, this]; simp

/-- 'append' onto a slice of the call's own, whatever is appended. -/
theorem run_app (t ty : TypeId) (ht : Try.prog.underlying t = some (.slice 3)) {w : World} {B : Nat} {A : Option Addr} {n c : Nat} {l : List Int} (h : OI w B A n c l)
    {B2 : Nat} {A2 : Option Addr} {m c2 : Nat} {r : List Int} (hr : SI w B2 A2 m c2 r) (hsz : n + m ≤ 1000000000000) (hB : B ≤ w.heap.size) :
    ∃ A' c' w', (Builtin.append_ #[t, t] ty #[.slice A n c, .slice A2 m c2]).run Try.prog w = .ok (.slice A' (n + m) c') w' ∧ OI w' B A' (n + m) c' (l ++ r) ∧ w.grownBy w' (blk A) ∧ (∀ k, blk A' = some k → blk A = some k ∨ w.heap.size ≤ k) := by
  obtain ⟨i, hi, hz, hs, hb⟩ := info_parts int_info
  obtain ⟨e1, e2, e3, e4⟩ := h
  obtain ⟨f1, f2, f3, f4⟩ := hr
  have hlen : n + m = (l ++ r).length := by simp; omega
  have hown : w.ownsRow B 3 1 (.slice none 0 0) 0 [] := World.ownsRow_nil w B _ _
  rcases f4 with ⟨rfl, rfl⟩ | ⟨a2, rfl, ha2⟩
  · -- nothing is appended
    obtain rfl : m = 0 := by omega
    obtain rfl : r = [] := List.eq_nil_of_length_eq_zero f1.symm
    refine ⟨A, c, w, ?_, by rw [Nat.add_zero, List.append_nil]; exact ⟨e1, e2, e3, e4⟩, World.grownBy.refl w _, fun _ h => .inl h⟩
    rcases e4 with ⟨rfl, rfl⟩ | ⟨g, o, cur, rfl, _, _, _, _⟩
    · obtain rfl : n = 0 := by omega
      simp [Builtin.append_, run_underlying ht, sizeOf, typeInfo, hi, Builtin.lenOf, Builtin.firstCells]
    · simp [Builtin.append_, run_underlying ht, sizeOf, typeInfo, hi, Builtin.lenOf, Builtin.firstCells, e2, storeCells]
  · have hnews : ∀ j u, (ints r)[j]? = some u → w.cell? (a2.add j) = some u := by
      intro j u hu
      obtain ⟨hj, rfl⟩ := ints_get hu
      obtain ⟨b2, o2, rfl, hb2, hcell2⟩ := ha2 (by omega)
      rw [Addr.add_lit]; exact hcell2 j (by omega)
    have hnl : (ints r).length = m * 1 := by rw [ints_len]; omega
    rcases e4 with ⟨rfl, rfl⟩ | ⟨g, o, cur, rfl, hBg, hg, hcs, hcell⟩
    · obtain rfl : n = 0 := by omega
      obtain rfl : l = [] := List.eq_nil_of_length_eq_zero e1.symm
      obtain ⟨v', w', hrun, r1, r2, r3, r4⟩ := run_append_own_at (P := Try.prog) w B t ty 3 i (.int .i64 0) 1 8 ht hi hz hs hb rfl (by decide) (.slice none 0 0) 0 [] hown a2 m c2 (ints r) hnl hnews (ints_one r) (by simp only [maxLen]; omega) (by omega) hB
      obtain ⟨A', n', c', rfl⟩ : ∃ A' n' c', v' = .slice A' n' c' := by
        rcases r1.2 with ⟨rfl, _⟩ | ⟨_, _, _, rfl, _⟩ <;> exact ⟨_, _, _, rfl⟩
      obtain rfl : n' = 0 + m := by
        rcases r1.2 with ⟨h1, h2⟩ | ⟨_, _, _, h1, _⟩ <;> injection h1 with _ h1 _ <;> omega
      refine ⟨A', c', w', hrun, OI.of_own (by simpa using r1), r2, fun k hk => ?_⟩
      cases A' with
      | none => cases hk
      | some a =>
        cases hk
        rcases r4 with r4 | r4
        · simp [Value.ownBlock] at r4
        · simp only [Value.ownBlock, Option.some.injEq] at r4; exact .inr (by omega)
    · by_cases hroom : n + m ≤ c
      · have hin : ∀ j, j < (ints r).length → (w.cell? ⟨g, o + n * 1 + j, none⟩).isSome = true ∧ w.frozen? ⟨g, o + n * 1 + j, none⟩ = false := fun j hj => by
          rw [ints_len] at hj
          refine ⟨?_, frozen_of_row w g _ cur _ hg⟩
          rw [cell_of_row w g _ cur _ (0, 0) hg, Array.getElem?_eq_getElem (by omega)]; rfl
        have hrun := run_append_room_cells (P := Try.prog) w t ty 3 i ht hi g o n c a2 m c2 (ints r) (by rw [hs]; exact hnl) hnews (ints_one r) hroom (by rw [hs]; exact fun j hj => (hin j hj).1) (by rw [hs]; exact fun j hj => (hin j hj).2)
        rw [hs] at hrun
        obtain ⟨k1, k2, k3, k4, k5, k6⟩ := heap_setCells g (ints r) (o + n * 1) w
        obtain ⟨cur', q1, q2, q3, q4⟩ := k6 cur _ hg
        refine ⟨_, _, _, hrun, ⟨hlen, hroom, e3, .inr ⟨g, o, cur', rfl, hBg, q1, by omega, fun j hj => ?_⟩⟩, ⟨k3, k4, k5, by omega, fun k _ hk => k2 k (fun e => hk (by rw [e]; rfl))⟩, fun _ h => .inl h⟩
        rcases Nat.lt_or_ge j n with hjn | hjn
        · rw [q3 (o + j) (.inl (by omega)), hcell j hjn, gi_append_left (by omega)]
        · obtain ⟨d, rfl⟩ := Nat.exists_eq_add_of_le hjn
          have hdr : d < r.length := by omega
          have hd := q4 d (by rw [ints_len]; omega) (by omega)
          rw [show o + (n + d) = o + n * 1 + d by omega, hd, gi_append_right (by omega)]
          simp only [ints, List.getElem?_map, getElem?_gi hdr, Option.map_some, show n + d - l.length = d by omega]
      · have holds : ∀ j u, (ints l)[j]? = some u → w.cell? ((⟨g, o, none⟩ : Addr).add j) = some u := by
          intro j u hu
          obtain ⟨hj, rfl⟩ := ints_get hu
          rw [Addr.add_lit, cell_of_row w g _ cur _ (0, 0) hg]; exact hcell j (by omega)
        obtain ⟨v', w', hrun, r1, r2⟩ := run_append_arg_grows (P := Try.prog) w t ty 3 i (.int .i64 0) 1 8 ht hi hz hs hb rfl (by decide) ⟨g, o, none⟩ n c (ints l) (by rw [ints_len]; omega) holds a2 m c2 (ints r) hnl hnews (by omega) (by simp only [maxLen]; omega) (by omega)
        obtain ⟨A', n', c', rfl⟩ : ∃ A' n' c', v' = .slice A' n' c' := by
          rcases r1.2 with ⟨rfl, _⟩ | ⟨_, _, _, rfl, _⟩ <;> exact ⟨_, _, _, rfl⟩
        obtain rfl : n' = n + m := by
          rcases r1.2 with ⟨h1, h2⟩ | ⟨_, _, _, h1, _⟩ <;> injection h1 with _ h1 _ <;> omega
        rw [ints_append] at r1
        refine ⟨A', c', w', hrun, (OI.of_own r1).less hB, ⟨r2.os, r2.tape, r2.output, r2.size, fun k hk _ => r2.block k hk (by simp)⟩, fun k hk => .inr ((OI.of_own r1).lt k hk).1⟩

/-- The same at the operation, for the walk. -/
theorem wpList_app {ops : Array Oper} {rest : List Oper} {o : Oper} {a : Act} {Q : Exit → Act → World → Prop} (hgd : o.guard = none) (s x : Operand) (t : TypeId)
    (ho : o.op = .call { callee := .builtin .append, args := #[s, x], argTypes := #[t, t] }) (ht : Try.prog.underlying t = some (.slice 3))
    {w : World} {B : Nat} {A : Option Addr} {n c : Nat} {l : List Int} {B2 : Nat} {A2 : Option Addr} {m c2 : Nat} {r : List Int}
    (hs : a.eval s = .slice A n c) (hx : a.eval x = .slice A2 m c2) (h : OI w B A n c l) (hr : SI w B2 A2 m c2 r) (hsz : n + m ≤ 1000000000000) (hB : B ≤ w.heap.size)
    (hK : ∀ A' c' w', OI w' B A' (n + m) c' (l ++ r) → w.grownBy w' (blk A) → (∀ k, blk A' = some k → blk A = some k ∨ w.heap.size ≤ k) → wpList Try.prog ops Q rest (a.put o.dst (.slice A' (n + m) c')) w') :
    wpList Try.prog ops Q (o :: rest) a w := by
  refine wpList_plain hgd fun K hK' => ?_
  obtain ⟨A', c', w', hr, h2, h3, h4⟩ := run_app t o.type ht h hr hsz hB
  unfold Oper.wp execOp
  simp only [ho, resolve, invoke, builtin, Sem.run_bind, Sem.run_pure, Result.andThen_ok, List.map_toArray, List.map_cons, List.map_nil, hs, hx, hr]
  exact hK' _ _ (hK A' c' w' h2 h3 h4)

/-- The one cell that 'append(s, x)' first lays. -/
theorem SI.one (w : World) (x : Int) : SI (w.alloc (.cells #[.int .i64 x] 3)) (w.heap.size + 1) (some ⟨w.heap.size, 0, none⟩) 1 1 [x] :=
  ⟨rfl, Nat.le_refl _, by simp [maxLen], .inr ⟨_, rfl, fun _ => ⟨w.heap.size, 0, rfl, by omega, fun i hi => by
    obtain rfl : i = 0 := by omega
    simp [World.cell?_alloc_at, gi]⟩⟩⟩

/-- 'make([]int, n)': n zeros are owned. -/
theorem wpList_mk {ops : Array Oper} {rest : List Oper} {o : Oper} {a : Act} {Q : Exit → Act → World → Prop} (hg : o.guard = none) (ln cp : Operand) (t : TypeId) (hop : o.op = Op.makeSlice t ln cp)
    (ht : Try.prog.underlying t = some (.slice 3)) (n : Nat) {w : World} (hl : a.eval ln = .int .i64 (n : Int)) (hc : a.eval cp = .int .i64 (n : Int)) (hsz : n ≤ 1000000000000) {B : Nat} (hB : B ≤ w.heap.size)
    (hK : ∀ w', OI w' B (some ⟨w.heap.size, 0, none⟩) n n (List.replicate n 0) → w.grownBy w' none → wpList Try.prog ops Q rest (a.put o.dst (.slice (some ⟨w.heap.size, 0, none⟩) n n)) w') :
    wpList Try.prog ops Q (o :: rest) a w := by
  obtain ⟨i, hi, hz, hs, hb⟩ := info_parts int_info
  refine wpList_make_full w hg ln cp t hop B 3 i (.int .i64 0) 1 ht hi hz hs .i64 .i64 n n n hl hc rfl rfl (by rw [hb]; omega) (by simp only [maxLen]; omega) hB fun w' h1 h2 => hK w' (OI.of_own ?_) h2
  have e : (madeCells (Value.int .i64 0).cells (n * 1)).toList = ints (List.replicate n 0) := by
    have := toList_madeCells_one (.int .i64 0) n
    rw [Nat.mul_one]; simpa [Value.cells, ints] using this
  rw [e] at h1; exact h1

/-- 'copy(out, s)' where both have one length: out reads as s. -/
theorem wpList_cp {ops : Array Oper} {rest : List Oper} {o : Oper} {a : Act} {Q : Exit → Act → World → Prop} (hgd : o.guard = none) (d s : Operand) (t : TypeId)
    (ho : o.op = .call { callee := .builtin .copy, args := #[d, s], argTypes := #[t, t] }) (ht : Try.prog.underlying t = some (.slice 3))
    {w : World} {B : Nat} {A : Option Addr} {n c : Nat} {l : List Int} {B2 : Nat} {A2 : Option Addr} {c2 : Nat} {r : List Int}
    (hd : a.eval d = .slice A n c) (hs : a.eval s = .slice A2 n c2) (h : OI w B A n c l) (hr : SI w B2 A2 n c2 r)
    (hK : ∀ w', OI w' B A n c r → w.grownBy w' (blk A) → wpList Try.prog ops Q rest (a.put o.dst (goInt n)) w') :
    wpList Try.prog ops Q (o :: rest) a w := by
  have hsz : (Try.prog.info? 3).map (·.size) = some 1 := by kernel_rfl
  obtain ⟨e1, e2, e3, e4⟩ := h
  obtain ⟨f1, f2, f3, f4⟩ := hr
  by_cases h0 : n = 0
  · subst h0
    obtain rfl : r = [] := List.eq_nil_of_length_eq_zero f1.symm
    obtain rfl : l = [] := List.eq_nil_of_length_eq_zero e1.symm
    exact wpList_copy_nothing hgd d s t t ho 3 ht hsz A A2 0 c 0 c2 hd hs rfl (hK w ⟨e1, e2, e3, e4⟩ (World.grownBy.refl w _))
  · rcases e4 with ⟨rfl, hc0⟩ | ⟨g, o', cur, rfl, hBg, hg, hcs, hcell⟩
    · omega
    · rcases f4 with ⟨rfl, hc0⟩ | ⟨a2, rfl, ha2⟩
      · omega
      · obtain ⟨b2, o2, rfl, hb2, hcell2⟩ := ha2 (by omega)
        refine wpList_copy_own hgd d s t t ho 3 ht hsz g o' n c ⟨b2, o2, none⟩ n c2 hd hs cur _ hg (ints r) (by rw [ints_len]; simp; omega) (fun j u hu => ?_) (by rw [ints_len]; omega) (ints_one r) ?_
        · obtain ⟨hj, rfl⟩ := ints_get hu
          rw [Addr.add_lit]; exact hcell2 j (by omega)
        · rw [ints_len, ← f1]
          refine hK _ ⟨f1, e2, e3, .inr ⟨g, o', _, rfl, hBg, setRow_heap w g cur _ _ _ hg, ?_, fun i hi => ?_⟩⟩ ⟨rfl, rfl, rfl, by simp [World.setRow], fun k _ hk => setRow_other w g k _ (fun e => hk (by rw [e]; rfl))⟩
          · simp only [List.size_toArray, List.length_append, List.length_take, List.length_drop, Array.length_toList, ints_len]; omega
          · have hlt : (cur.toList.take o').length = o' := by simp; omega
            rw [List.getElem?_toArray, List.getElem?_append_right (by omega), hlt, Nat.add_sub_cancel_left, List.getElem?_append_left (by rw [ints_len]; omega)]
            simp only [ints, List.getElem?_map, getElem?_gi (show i < r.length by omega), Option.map_some]

/-- A literal '[]int{..}' of the call's own. -/
theorem OI.lit (w : World) (B : Nat) (l : List Int) (n : Nat) (hn : n = l.length) (hB : B ≤ w.heap.size) (hsz : l.length ≤ 1000000000000) (cs : Array Value) (hcs : cs = (ints l).toArray) :
    OI (w.alloc (.cells cs 3)) B (some ⟨w.heap.size, 0, none⟩) n n l := by
  subst hcs; subst hn
  refine ⟨rfl, Nat.le_refl _, by simp only [maxLen]; omega, .inr ⟨w.heap.size, 0, _, rfl, hB, heap_alloc_new w _, by simp [ints], fun i hi => ?_⟩⟩
  simp only [Nat.zero_add, List.getElem?_toArray, ints, List.getElem?_map, getElem?_gi hi, Option.map_some]

/-- The law on append for a region that draws its order. -/
theorem step_app {ops : Array Oper} {o : Oper} {a : Act} {K : Act → World → Prop} {Q : Exit → Act → World → Prop} {E : Prop} (hgd : o.guard = none) (s x : Operand) (t : TypeId)
    (ho : o.op = .call { callee := .builtin .append, args := #[s, x], argTypes := #[t, t] }) (ht : Try.prog.underlying t = some (.slice 3))
    {w : World} {B : Nat} {A : Option Addr} {n c : Nat} {l : List Int} {B2 : Nat} {A2 : Option Addr} {m c2 : Nat} {r : List Int}
    (hs : a.eval s = .slice A n c) (hx : a.eval x = .slice A2 m c2) (h : OI w B A n c l) (hr : SI w B2 A2 m c2 r) (hsz : n + m ≤ 1000000000000) (hB : B ≤ w.heap.size)
    (hK : ∀ A' c' w', OI w' B A' (n + m) c' (l ++ r) → w.grownBy w' (blk A) → (∀ k, blk A' = some k → blk A = some k ∨ w.heap.size ≤ k) → K (a.put o.dst (.slice A' (n + m) c')) w') :
    if Region.wanted o (yielded ops a.tmps) = true then Oper.wp Try.prog o a w K Q else E := by
  have hw : Region.wanted o (yielded ops a.tmps) = true := by simp [Region.wanted, hgd]
  rw [if_pos hw]
  obtain ⟨A', c', w', hr, h2, h3, h4⟩ := run_app t o.type ht h hr hsz hB
  unfold Oper.wp execOp
  simp only [ho, resolve, invoke, builtin, Sem.run_bind, Sem.run_pure, Result.andThen_ok, List.map_toArray, List.map_cons, List.map_nil, hs, hx, hr]
  exact hK A' c' w' h2 h3 h4

/-- The same at an operation that stands behind a guard which says yes. -/
theorem step_appG {ops : Array Oper} {o : Oper} {a : Act} {K : Act → World → Prop} {Q : Exit → Act → World → Prop} {E : Prop} (hw : Region.wanted o (yielded ops a.tmps) = true) (s x : Operand) (t : TypeId)
    (ho : o.op = .call { callee := .builtin .append, args := #[s, x], argTypes := #[t, t] }) (ht : Try.prog.underlying t = some (.slice 3))
    {w : World} {B : Nat} {A : Option Addr} {n c : Nat} {l : List Int} {B2 : Nat} {A2 : Option Addr} {m c2 : Nat} {r : List Int}
    (hs : a.eval s = .slice A n c) (hx : a.eval x = .slice A2 m c2) (h : OI w B A n c l) (hr : SI w B2 A2 m c2 r) (hsz : n + m ≤ 1000000000000) (hB : B ≤ w.heap.size)
    (hK : ∀ A' c' w', OI w' B A' (n + m) c' (l ++ r) → w.grownBy w' (blk A) → (∀ k, blk A' = some k → blk A = some k ∨ w.heap.size ≤ k) → K (a.put o.dst (.slice A' (n + m) c')) w') :
    if Region.wanted o (yielded ops a.tmps) = true then Oper.wp Try.prog o a w K Q else E := by
  rw [if_pos hw]
  obtain ⟨A', c', w', hr, h2, h3, h4⟩ := run_app t o.type ht h hr hsz hB
  unfold Oper.wp execOp
  simp only [ho, resolve, invoke, builtin, Sem.run_bind, Sem.run_pure, Result.andThen_ok, List.map_toArray, List.map_cons, List.map_nil, hs, hx, hr]
  exact hK A' c' w' h2 h3 h4
end Go.Proofs.Ytgnkidmljcpheac
