/- Contracts of the reader of drawn arguments: what it gives is a number in its range; nothing else is asked of it. No statement is proved here. -/
import Derived.Test.YtgnkidmljcpheacSkC
namespace Go.Proofs.Ytgnkidmljcpheac
open Go.RowKit

/-- The slice reads in w as the bytes l, in a block below B. -/
def SB (w : World) (B : Nat) (A : Option Addr) (n c : Nat) (l : List Int) : Prop :=
  n = l.length ∧ n ≤ c ∧ c ≤ maxLen ∧ (∀ x ∈ l, 0 ≤ x ∧ x ≤ 255) ∧ ((A = none ∧ c = 0) ∨ ∃ a, A = some a ∧ (0 < n → ∃ b o, a = ⟨b, o, none⟩ ∧ b < B ∧ ∀ i, i < n → w.cell? ⟨b, o + i, none⟩ = some (.int .u8 (gi l i))))
theorem SB.at_ {w : World} {B : Nat} {A : Option Addr} {n c : Nat} {l : List Int} (h : SB w B A n c l) {k : Nat} (hk : k < n) :
    ∃ b o, A = some ⟨b, o, none⟩ ∧ b < B ∧ w.cell? ⟨b, o + k, none⟩ = some (.int .u8 (gi l k)) ∧ 0 ≤ gi l k ∧ gi l k ≤ 255 := by
  obtain ⟨hl, hc, _, hbd, ⟨_, h0⟩ | ⟨a, rfl, ha⟩⟩ := h
  · omega
  · obtain ⟨b, o, rfl, hb, hcell⟩ := ha (by omega)
    exact ⟨b, o, rfl, hb, hcell k hk, hbd _ (gi_mem (by omega))⟩
theorem SB.keep {w w' : World} {B : Nat} {A : Option Addr} {n c : Nat} {l : List Int} (h : SB w B A n c l) (hk : ∀ p : Addr, p.block < B → w'.cell? p = w.cell? p) : SB w' B A n c l := by
  obtain ⟨h1, h2, h3, h5, h4⟩ := h
  refine ⟨h1, h2, h3, h5, ?_⟩
  rcases h4 with h4 | ⟨a, rfl, ha⟩
  · exact .inl h4
  · refine .inr ⟨a, rfl, fun hn => ?_⟩
    obtain ⟨b, o, rfl, hb, hc⟩ := ha hn
    exact ⟨b, o, rfl, hb, fun i hi => (hk ⟨b, o + i, none⟩ hb).trans (hc i hi)⟩

theorem SB.more {w : World} {B B' : Nat} {A : Option Addr} {n c : Nat} {l : List Int} (h : SB w B A n c l) (hB : B ≤ B') : SB w B' A n c l := by
  obtain ⟨h1, h2, h3, h5, h4⟩ := h
  refine ⟨h1, h2, h3, h5, ?_⟩
  rcases h4 with h4 | ⟨a, rfl, ha⟩
  · exact .inl h4
  · refine .inr ⟨a, rfl, fun hn => ?_⟩
    obtain ⟨b, o, rfl, hb, hc⟩ := ha hn
    exact ⟨b, o, rfl, by omega, hc⟩
theorem SB.below {w w' : World} {B : Nat} {A : Option Addr} {n c : Nat} {l : List Int} (h : SB w B A n c l) (hb : Below B w w') : SB w' B A n c l := h.keep fun _ hp => hb.cell hp

/-- A reader at block g that has read p numbers. -/
def Rdr (w : World) (g p : Nat) : Prop :=
  ∃ A n c l, w.heap[g]? = some (.cells #[.slice A n c, .int .i64 (p : Int)] 50 (0, 0)) ∧ SB w g A n c l
theorem Rdr.lt {w : World} {g p : Nat} (h : Rdr w g p) : g < w.heap.size := by
  obtain ⟨A, n, c, l, h, _⟩ := h; exact (Array.getElem?_eq_some_iff.1 h).1
theorem Rdr.keep {w w' : World} {g p : Nat} (h : Rdr w g p) (hk : ∀ k, k ≤ g → w'.heap[k]? = w.heap[k]?) : Rdr w' g p := by
  obtain ⟨A, n, c, l, h1, h2⟩ := h
  exact ⟨A, n, c, l, (hk g (Nat.le_refl _)).trans h1, h2.keep fun p hp => World.cell?_of_block (hk p.block (by omega))⟩
theorem Rdr.below {w w' : World} {g p : Nat} (h : Rdr w g p) (hb : Below w.heap.size w w') : Rdr w' g p := h.keep fun k hk => hb.block k (by have := h.lt; omega)
theorem Rdr.belowB {w w' : World} {g p B : Nat} (h : Rdr w g p) (hb : Below B w w') (hB : g < B) : Rdr w' g p := h.keep fun k hk => hb.block k (by omega)
theorem Rdr.alloc {w : World} {g p : Nat} (h : Rdr w g p) (o : Obj) : Rdr (w.alloc o) g p := h.keep fun k hk => Below.heap_alloc w o k (by have := h.lt; omega)
theorem Rdr.drewN {w : World} {g p : Nat} (h : Rdr w g p) (q : Nat) : Rdr (w.drewN q) g p := h
theorem Rdr.far {w w' : World} {g p : Nat} {row : Option Nat} (h : Rdr w g p) (hg : w.grownBy w' row) (hr : ∀ k, row = some k → g < k) : Rdr w' g p :=
  h.keep fun k hk => hg.block k (by have := h.lt; omega) fun e => by have := hr k e.symm; omega

theorem ofInt_i64 (a : Nat) (ha : a < 9223372036854775808) : (BitVec.ofInt 64 (a : Int)).toNat = a := by
  rw [BitVec.ofInt_natCast, BitVec.toNat_ofNat]; exact Nat.mod_eq_of_lt (by omega)
theorem xor_bd (x y : Int) (hx : 0 ≤ x) (hx' : x < 9223372036854775808) (hy : 0 ≤ y) (hy' : y < 9223372036854775808) : 0 ≤ bits .xor .i64 x y ∧ bits .xor .i64 x y < 9223372036854775808 := by
  obtain ⟨a, rfl⟩ := Int.eq_ofNat_of_zero_le hx
  obtain ⟨b, rfl⟩ := Int.eq_ofNat_of_zero_le hy
  have hlt : a ^^^ b < 2 ^ 63 := Nat.xor_lt_two_pow (by omega) (by omega)
  have e : bits .xor .i64 (a : Int) (b : Int) = ((a ^^^ b : Nat) : Int) := by
    show IntKind.i64.wrap ((BitVec.ofInt 64 (a : Int) ^^^ BitVec.ofInt 64 (b : Int)).toNat : Int) = _
    rw [BitVec.toNat_xor, ofInt_i64 a (by omega), ofInt_i64 b (by omega), IntKind.wrap_i64]
    omega
  rw [e]; omega

/-- What pick leaves: a number below n (0 if there is none), the reader one further, nothing else turned. -/
def Picks (w : World) (g p : Nat) (n : Int) (e : Ending) (w' : World) : Prop :=
  ∃ q : Int, e = .returned (.int .i64 q) ∧ 0 ≤ q ∧ (q < n ∨ q = 0) ∧ Rdr w' g (p + 1) ∧ w.grownBy w' (some g) ∧ w'.heap.size = w.heap.size

theorem rdr_step {w : World} {g p : Nat} (h : Rdr w g p) (q : Nat) : Rdr ((w.setCell ⟨g, 1, none⟩ (.int .i64 ((p : Int) + 1))).drewN q) g (p + 1) ∧ w.grownBy ((w.setCell ⟨g, 1, none⟩ (.int .i64 ((p : Int) + 1))).drewN q) (some g) ∧
    ((w.setCell ⟨g, 1, none⟩ (.int .i64 ((p : Int) + 1))).drewN q).heap.size = w.heap.size := by
  obtain ⟨A, n, c, l, h1, h2⟩ := h
  refine ⟨⟨A, n, c, l, ?_, ?_⟩, ⟨rfl, rfl, rfl, by show _ ≤ (w.setCell _ _).heap.size; simp [World.setCell], fun k _ hk => ?_⟩, by show (w.setCell _ _).heap.size = _; simp [World.setCell]⟩
  · have := heap_setCell_same w g 1 _ _ (.int .i64 ((p : Int) + 1)) h1
    exact this
  · exact h2.keep fun x hx => World.cell?_setCell_other w ⟨g, 1, none⟩ x _ (fun e => by subst e; simp at hx)
  · exact Below.heap_setCell w ⟨g, 1, none⟩ _ k (fun e => hk (by rw [e]))

theorem picks_of {w : World} {g p : Nat} {n x : Int} (h : Rdr w g p) (q : Nat) (h0 : 0 ≤ x) (h1 : x < n ∨ x = 0) :
    Picks w g p n (.returned (.int .i64 x)) ((w.setCell ⟨g, 1, none⟩ (.int .i64 ((p : Int) + 1))).drewN q) :=
  ⟨x, rfl, h0, h1, (rdr_step h q).1, (rdr_step h q).2.1, (rdr_step h q).2.2⟩

set_option maxRecDepth 100000 in
set_option maxHeartbeats 1000000 in
theorem pick_c (g p : Nat) (n : Int) (w : World) (h : Rdr w g p) (hp : p ≤ 1000000000) :
    Calls Try.prog 47 #[.pointer (some ⟨g, 0, none⟩), .int .i64 n] w (Picks w g p n) := by
  have H := Lib.hid h
  obtain ⟨A, m, c, l, hb, hs⟩ := h
  have hc0 : w.cell? ⟨g, 0, none⟩ = some (.slice A m c) := cell_of_row w g 0 _ _ (0, 0) hb
  have hc1 : w.cell? ⟨g, 1, none⟩ = some (.int .i64 (p : Int)) := cell_of_row w g 1 _ _ (0, 0) hb
  have hf1 : w.frozen? ⟨g, 1, none⟩ = false := frozen_of_row w g 1 _ _ hb
  have hm : m ≤ c := hs.2.1
  have hmx : c ≤ 9223372036854775807 := by have := hs.2.2.1; simpa [maxLen] using this
  clear hb
  by_cases hn : n < 1
  · have hd : decide (n < 1) = true := by simpa using hn
    go_enter Try.func47, Try.ntmps47
    go_wp2
    go_ret
    exact picks_of H.out 0 (by omega) (.inr rfl)
  · have hd : decide (n < 1) = false := by simpa using hn
    by_cases h0 : m = 0
    · subst h0
      go_enter Try.func47, Try.ntmps47
      go_wp2
      go_ret
      exact picks_of H.out 0 (by omega) (.inr rfl)
    · have hd0 : ((m : Int) == 0) = false := by simp; omega
      by_cases hk : p < m
      · obtain ⟨b, o, rfl, hbg, hcell, hx0, hx1⟩ := hs.at_ hk
        have hne : (⟨b, o + p, none⟩ : Addr) ≠ ⟨g, 1, none⟩ := fun e => by injection e; omega
        go_enter Try.func47, Try.ntmps47
        go_wp2
        go_ret
        exact picks_of H.out 0 (Int.emod_nonneg _ (by omega)) (.inl (Int.emod_lt_of_pos _ (by omega)))
      · have W : ∀ x : Int, 0 ≤ x ∧ x ≤ 1000000000000 → IntKind.i64.wrap x = x := fun x h => IntWalk.i64_in x ⟨by omega, by omega⟩
        obtain ⟨k1, hk1, t1⟩ : ∃ k1 : Nat, k1 < m ∧ Int.tmod (p : Int) (m : Int) = (k1 : Int) := ⟨p % m, Nat.mod_lt _ (by omega), (Int.ofNat_tmod p m).symm⟩
        obtain ⟨k2, hk2, t2⟩ : ∃ k2 : Nat, k2 < m ∧ Int.tmod ((p : Int) * 7 + 3) (m : Int) = (k2 : Int) := ⟨(p * 7 + 3) % m, Nat.mod_lt _ (by omega), by have := (Int.ofNat_tmod (p * 7 + 3) m).symm; simpa using this⟩
        obtain ⟨d, hd2, t3⟩ : ∃ d : Nat, d ≤ p ∧ Int.tdiv (p : Int) (m : Int) = (d : Int) := ⟨p / m, Nat.div_le_self _ _, (Int.ofNat_tdiv p m).symm⟩
        obtain ⟨b, o, rfl, hbg, hcell, hx0, hx1⟩ := hs.at_ hk1
        obtain ⟨b2, o2, he, _, hcell2, hy0, hy1⟩ := hs.at_ hk2
        injection he with he; injection he with he1 he2; subst he1; subst he2
        obtain ⟨x, hx⟩ : ∃ x, gi l k1 = x := ⟨_, rfl⟩
        obtain ⟨y, hy⟩ : ∃ y, gi l k2 = y := ⟨_, rfl⟩
        rw [hx] at hcell hx0 hx1
        rw [hy] at hcell2 hy0 hy1
        clear hx hy
        have a1 := W (x * 131) (by omega)
        have a2 := W (y * 1117) (by omega)
        have a3 := W (x * 131 + y * 1117) (by omega)
        have a4 := W ((p : Int) * 29) (by omega)
        have a5 := W (x * 131 + y * 1117 + (p : Int) * 29) (by omega)
        have a6 := W ((d : Int) * 53) (by omega)
        have a7 := W (x * 131 + y * 1117 + (p : Int) * 29 + (d : Int) * 53) (by omega)
        have a8 := W ((p : Int) * 7) (by omega)
        have a9 := W ((p : Int) * 7 + 3) (by omega)
        have a10 := W (d : Int) (by omega)
        clear W
        go_enter Try.func47, Try.ntmps47
        go_wp2
        go_quiet (fail)
        clear a1 a2 a3 a4 a5 a6 a7 a8 a9 a10 t1 t2 t3
        have hz0 : 0 ≤ x * 131 + y * 1117 + (p : Int) * 29 + (d : Int) * 53 := by omega
        have hz1 : x * 131 + y * 1117 + (p : Int) * 29 + (d : Int) * 53 ≤ 1000000000000 := by omega
        generalize x * 131 + y * 1117 + (p : Int) * 29 + (d : Int) * 53 = z at *
        go_wp2
        go_ret
        exact picks_of H.out nq (Int.tmod_nonneg _ (xor_bd z (z / 64) hz0 (by omega) (by omega) (by omega)).1) (.inl (Int.tmod_lt_of_pos _ (by omega)))

theorem SI.far {w w' : World} {B : Nat} {A : Option Addr} {n c : Nat} {l : List Int} (h : SI w B A n c l) {row : Option Nat} (hg : w.grownBy w' row) (hB : B ≤ w.heap.size) (hne : ∀ b, blk A = some b → row ≠ some b) : SI w' B A n c l := by
  obtain ⟨h1, h2, h3, h4⟩ := h
  refine ⟨h1, h2, h3, ?_⟩
  rcases h4 with h4 | ⟨a, rfl, ha⟩
  · exact .inl h4
  · refine .inr ⟨a, rfl, fun hn => ?_⟩
    obtain ⟨b, o, rfl, hb, hc⟩ := ha hn
    exact ⟨b, o, rfl, hb, fun i hi => (World.cell?_of_block (hg.block b (by omega) (fun e => hne b rfl e.symm))).trans (hc i hi)⟩

/-- What 'one' leaves: a number of the list. -/
def Ones (w : World) (g p : Nat) (l : List Int) (e : Ending) (w' : World) : Prop :=
  ∃ x : Int, e = .returned (.int .i64 x) ∧ x ∈ l ∧ Rdr w' g (p + 1) ∧ w.grownBy w' (some g) ∧ w'.heap.size = w.heap.size

theorem one_c (g p : Nat) (A : Option Addr) (n c : Nat) (l : List Int) (w : World) (B : Nat) (h : Rdr w g p) (hp : p ≤ 1000000000) (hs : SI w B A n c l) (hB : B ≤ w.heap.size) (hne : ∀ b, blk A = some b → some g ≠ some b) (hn : 1 ≤ n) :
    Calls Try.prog 64 #[.pointer (some ⟨g, 0, none⟩), .slice A n c] w (Ones w g p l) := by
  have hc := hs.le
  have hm := hs.max
  go_enter Try.func64, Try.ntmps64
  go_wp2_with fail
  refine (pick_c g p n w h hp).mono ?_
  rintro e w1 ⟨q, rfl, hq0, hq1, hr, hg, hsz⟩
  obtain ⟨k, rfl⟩ := Int.eq_ofNat_of_zero_le hq0
  have hk : k < n := by omega
  obtain ⟨b, o, rfl, hb, hcell⟩ := (hs.far hg hB hne).at_ hk
  go_wp2
  go_ret
  exact ⟨_, rfl, gi_mem (by rw [← hs.len]; exact hk), hr, hg, hsz⟩

/-- The reader is made. -/
def NewR (w : World) (e : Ending) (w' : World) : Prop := e = .returned (.pointer (some ⟨w.heap.size, 0, none⟩)) ∧ Rdr w' w.heap.size 0 ∧ Below w.heap.size w w' ∧ w'.heap.size = w.heap.size + 1
theorem newReader_c (A : Option Addr) (n c : Nat) (l : List Int) (w : World) (h : SB w w.heap.size A n c l) : Calls Try.prog 45 #[.slice A n c] w (NewR w) := by
  have H := Lib.hid h
  obtain ⟨h1, h2, h3, h5, h4⟩ := h
  have hm : c ≤ 9223372036854775807 := by simpa [maxLen] using h3
  clear h1 h4
  by_cases hn : n ≤ 2000
  · go_enter Try.func45, Try.ntmps45
    go_wp2
    go_ret
    refine ⟨rfl, ⟨A, n, c, l, heap_alloc_new w _, ?_⟩, (Below.refl _ _).alloc (Nat.le_refl _) _, by simp⟩
    exact H.out.keep fun p hp => World.cell?_alloc_lt w _ p hp
  · go_enter Try.func45, Try.ntmps45
    go_wp2
    go_ret
    refine ⟨rfl, ⟨A, 2000, c, l.take 2000, heap_alloc_new w _, ?_⟩, (Below.refl _ _).alloc (Nat.le_refl _) _, by simp⟩
    refine SB.keep (w := w) ?_ fun p hp => World.cell?_alloc_lt w _ p hp
    obtain ⟨h1, _, _, _, h4⟩ := H.out
    refine ⟨by simp; omega, by omega, h3, fun x hx => h5 x (List.mem_of_mem_take hx), ?_⟩
    rcases h4 with h4 | ⟨a, rfl, ha⟩
    · exact .inl h4
    · refine .inr ⟨a, rfl, fun _ => ?_⟩
      obtain ⟨b, o, rfl, hb, hcell⟩ := ha (by omega)
      exact ⟨b, o, rfl, hb, fun i hi => by rw [gi_take hi]; exact hcell i (by omega)⟩

end Go.Proofs.Ytgnkidmljcpheac
