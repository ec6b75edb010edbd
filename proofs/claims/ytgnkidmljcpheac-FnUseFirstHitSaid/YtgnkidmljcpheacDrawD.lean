/- Contracts of what is drawn for the functions of chapter 2. No statement is proved here. -/
import Derived.Test.YtgnkidmljcpheacDrawC
import Derived.Deep.RegionWith
namespace Go.Proofs.Ytgnkidmljcpheac
open Go.RowKit

theorem drawValidKeys_c (A : Option Addr) (n c : Nat) (l : List Int) (w : World) (h : SB w w.heap.size A n c l) : Calls Try.prog 46 #[.slice A n c] w (Drawn2 w) := by
  go_enter Try.func46, Try.ntmps46
  go_wp2_with fail
  refine (newReader_c _ _ _ _ w h).mono ?_
  rintro e w1 ⟨rfl, hr1, hb1, -⟩
  have z1 := hb1.size
  have hlt := hr1.lt
  go_wp2_with fail
  refine (someRoom_c _ _ w1 hr1 (by omega)).mono ?_
  rintro e w2 ⟨room, p2, rfl, hy0, hy1, hr2, hp2, hw2⟩
  have z2 := hw2.size
  go_wp2_with fail
  refine (someKeys_c _ _ room w2 hr2 (by omega) hy0 hy1).mono ?_
  rintro e w3 ⟨A3, n3, c3, l3, p3, rfl, hO3, hn3, hbd3, hr3, hp3, hw3⟩
  have z3 := hw3.size
  go_wp2_with fail
  refine (spoil_c _ _ _ _ _ l3 3 w3 hr3 (by omega) hO3.si hbd3 (by omega) (by omega) (by omega)).mono ?_
  rintro e w4 ⟨A4, n4, c4, l4, p4, rfl, hO4, hn4, hbd4, hr4, hp4, hw4⟩
  go_wp2
  go_ret2
  exact ⟨_, _, _, _, _, rfl, hO4.less (by omega), by omega, hbd4, by omega, hb1.trans ((((hw2.less z1).trans (hw3.less (by omega))).trans (hw4.less (by omega))).toBelow (Nat.le_refl _))⟩

theorem below_dN' {B : Nat} {a w : World} (h : Below B a w) (q : Nat) : Below B a (w.drewN q) := ⟨h.os, h.tape, h.output, h.size, h.block⟩
theorem cell_of {w : World} {B b o n c : Nat} {l : List Int} (h : OI w B (some ⟨b, o, none⟩) n c l) {k : Nat} (hk : k < n) : w.cell? ⟨b, o + k, none⟩ = some (.int .i64 (gi l k)) := by
  obtain ⟨b', o', he, _, hcell, _⟩ := h.at_ hk
  injection he with he; injection he with h1 h2; subst h1; subst h2; exact hcell
set_option maxHeartbeats 1000000 in
theorem drawUseRecent_c (A : Option Addr) (n c : Nat) (l : List Int) (w : World) (h : SB w w.heap.size A n c l) : Calls Try.prog 15 #[.slice A n c] w (Drawn3 w) := by
  go_enter Try.func15, Try.ntmps15
  go_wp2_with fail
  refine (newReader_c _ _ _ _ w h).mono ?_
  rintro e w1 ⟨rfl, hr1, hb1, -⟩
  have z1 := hb1.size
  have hlt := hr1.lt
  go_wp2_with fail
  refine (drawValidKeys_c _ _ _ _ w1 ((h.below hb1).more z1)).mono ?_
  rintro e w2 ⟨A2, n2, c2, l2, room, rfl, hO2, hn2, hbd2, hroom, hb2⟩
  have z2 := hb2.size
  have hr2 := hr1.below hb2
  have hc2 := hO2.le
  have hmx2 := hO2.si.max
  have hne : blk A2 ≠ some w.heap.size := fun e => by have := (hO2.lt _ e).1; omega
  by_cases hn0 : n2 = 0
  · subst hn0
    go_wp2_with fail
    refine (someKey_c _ _ w2 hr2 (by omega)).mono ?_
    rintro e w3 ⟨y, p3, rfl, hy0, hy1, hr3, hp3, hw3⟩
    go_wp2
    go_ret3
    exact ⟨_, _, _, _, _, _, rfl, OI.less (hO2.keep fun k hk hlt2 => hw3.block k hlt2 (fun e => hne (by rw [hk, e]))) z1, by omega, hbd2, hroom, by omega, (hb1.trans (hb2.mono z1)).trans ((hw3.less (by omega)).toBelow (Nat.le_refl _))⟩
  · have hd : decide (0 < n2) = true := by simp; omega
    go_wp2_with fail
    refine (pick_c _ _ 2 w2 hr2 (by omega)).mono ?_
    rintro e w3 ⟨t, rfl, ht0, ht1, hr3, hg3, -⟩
    have z3 := hg3.size
    have hO3 := hO2.far hg3 (.inr hne)
    have hb3 : Below w.heap.size w w3 := (hb1.trans (hb2.mono z1)).trans (below_only hg3 (Nat.le_refl _) (by omega))
    rcases Bool.eq_false_or_eq_true (t == 0) with ht | ht
    · obtain ⟨b, o, rfl, hbB, -, -⟩ := hO3.at_ (k := 0) (by omega)
      have hr3' : Rdr w3.drew w.heap.size (0 + 1) := hr3
      have hO3' : OI w3.drew w1.heap.size (some ⟨b, o, none⟩) n2 c2 l2 := hO3
      have HK : Hid (∀ k, k < n2 → -100000 ≤ gi l2 k ∧ gi l2 k ≤ 100000) := fun k hk => hbd2.gi (by rw [← hO3.len]; exact hk)
      go_wp2
      go_region_with (go_at_call 47; refine (pick_c _ _ n2 w3.drew hr3' (by omega)).mono ?_; rintro e w4 ⟨j, rfl, hj0, hj1, hr4, hg4, -⟩; obtain ⟨k, rfl⟩ := Int.eq_ofNat_of_zero_le hj0; have hk : k < n2 := (by omega); have hO4 := hO3'.far hg4 (.inr hne); have hcell := (cell_of hO4 hk))
      all_goals
        go_wp2
        go_ret3
        exact ⟨_, _, _, _, _, _, rfl, hO4.less z1, by omega, hbd2, hroom, HK.out k hk, (below_dN' hb3 1).trans (below_only hg4 (Nat.le_refl _) (by show _ ≤ w3.heap.size; omega))⟩
    · go_wp2_with fail
      refine (someKey_c _ _ w3 hr3 (by omega)).mono ?_
      rintro e w4 ⟨y, p4, rfl, hy0, hy1, hr4, hp4, hw4⟩
      go_wp2
      go_ret3
      exact ⟨_, _, _, _, _, _, rfl, OI.less (hO3.keep fun k hk hlt2 => hw4.block k hlt2 (fun e => hne (by rw [hk, e]))) z1, by omega, hbd2, hroom, by omega, hb3.trans ((hw4.less (by omega)).toBelow (Nat.le_refl _))⟩

theorem drawUseFirst_c (A : Option Addr) (n c : Nat) (l : List Int) (w : World) (h : SB w w.heap.size A n c l) : Calls Try.prog 20 #[.slice A n c] w (Drawn3 w) := by
  go_enter Try.func20, Try.ntmps20
  go_wp2_with fail
  refine (drawUseRecent_c _ _ _ _ w h).mono ?_
  rintro e w1 ⟨A2, n2, c2, l2, x, y, rfl, r⟩
  go_wp2
  go_ret3
  exact ⟨_, _, _, _, _, _, rfl, r⟩
end Go.Proofs.Ytgnkidmljcpheac
