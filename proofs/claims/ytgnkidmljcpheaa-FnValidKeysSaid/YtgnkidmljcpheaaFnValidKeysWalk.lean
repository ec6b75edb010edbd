/- The walk of a law: Law FnValidKeys (P11): valid keys in reverse order are valid, and with the first one twice they are not. -/
import Derived.Test.YtgnkidmljcpheaaRc
import Derived.Test.YtgnkidmljcpheaaDrawD
import Derived.Test.YtgnkidmljcpheaaFrame
namespace Go.Proofs.Ytgnkidmljcpheaa.fnValidKeys
open Go.RowKit

theorem rev_take {l : List Int} {k : Nat} (h : k < l.length) : (l.drop (k + 1)).reverse ++ [gi l k] = (l.drop k).reverse := by
  rw [drop_gi h, List.reverse_cons]
theorem vks_rev {l : List Int} {room : Int} (h : vks l room = true) : vks l.reverse room = true := by
  obtain ⟨h1, h2, h3, h4⟩ := vks_iff.1 h
  refine vks_yes h1.1 h1.2 (by rw [List.length_reverse]; exact h2) (allR_of fun x hx => allR_mem h3 (List.mem_reverse.1 hx)) ?_
  exact decide_eq_true ((List.reverse_perm l).nodup_iff.2 (of_decide_eq_true h4))
theorem vks_twice {l : List Int} {room : Int} (h : 0 < l.length) : vks (l ++ [gi l 0]) room = false := by
  refine vks_no fun ⟨_, _, _, hd⟩ => ?_
  have := distL_no (l := l ++ [gi l 0]) (j := 0) (i := l.length) h (by simp) (by
    rw [gi_append_left h, gi_append_right (Nat.le_refl _), Nat.sub_self]; rfl)
  rw [this] at hd; cases hd
theorem si_zero {w : World} {B b o n c : Nat} {l : List Int} (h : SI w B (some ⟨b, o, none⟩) n c l) (hn : 0 < n) : w.cell? ⟨b, o, none⟩ = some (.int .i64 (gi l 0)) := by
  obtain ⟨b', o', he, _, hcell⟩ := h.at_ hn
  injection he with he; injection he with h1 h2; subst h1; subst h2; exact hcell

set_option maxRecDepth 100000 in
set_option maxHeartbeats 1000000 in
theorem walk (a : Option Addr) (n c : Nat) (z : List Int) (w : World) (h : Came .u8 w a n c z) :
    Calls Try.prog 13 #[.slice a n c] w (Law w) := by
  have hb := h.sb
  have hm : c ≤ 9223372036854775807 := by have := hb.2.2.1; simpa [maxLen] using this
  have hc := hb.2.1
  by_cases hn : n ≤ 1048576
  · go_enter Try.func13, Try.ntmps13
    go_wp2_with fail
    refine (drawValidKeys_c _ _ _ _ w hb).mono ?_
    rintro e w1 ⟨A1, n1, c1, l, room, rfl, hO1, hn1, hbd, hroom, hb1⟩
    have z1 := hb1.size
    have hc1 := hO1.le
    have hmx1 := hO1.si.max
    have hS1 := hO1.si
    rcases Bool.eq_false_or_eq_true (vks l room) with hv | hv
    · by_cases hn0 : n1 = 0
      · subst hn0
        go_wp2_with (first | (go_at_call 40; refine (implValidKeys_c _ _ _ l _ _ _ hS1).mono ?_; rintro e w' ⟨rfl, rfl⟩) | (go_at_call 41; refine (specValidKeys_c _ _ _ l _ _ _ hS1).mono ?_; rintro e w' ⟨rfl, rfl⟩))
        go_ret
        exact ⟨rfl, hb1⟩
      · have hd0 : ((n1 : Int) == 0) = false := by simp; omega
        have hlen := Lib.hid hS1.len
        obtain ⟨b, o, rfl, hbB, -⟩ := hS1.at_ (k := 0) (by omega)
        go_wp2_with (first | (go_at_call 40; refine (implValidKeys_c _ _ _ l _ _ _ hS1).mono ?_; rintro e w' ⟨rfl, rfl⟩) | (go_at_call 41; refine (specValidKeys_c _ _ _ l _ _ _ hS1).mono ?_; rintro e w' ⟨rfl, rfl⟩))
        have hO0 := OI.lit w1 w1.heap.size [] 0 rfl (Nat.le_refl _) (by simp) #[] rfl
        have hb0 : Below w1.heap.size w1 (w1.alloc (.cells #[] 3)) := (Below.refl _ _).alloc (Nat.le_refl _) _
        go_loopw [6, 7] (fun v i wr => ∃ (k : Nat) (A : Option Addr) (m c : Nat), k ≤ n1 ∧ m + k = n1 ∧ i = .int .i64 ((k : Int) - 1) ∧ v = .slice A m c ∧ OI wr w1.heap.size A m c (l.drop k).reverse ∧ Below w1.heap.size w1 wr) (fun _ i _ => (intOf i + 1).toNat)
        case atStart => exact ⟨n1, _, 0, 0, Nat.le_refl _, by omega, rfl, rfl, by rw [List.drop_of_length_le (by rw [hlen.out]; exact Nat.le_refl _)]; exact hO0, hb0⟩
        case round =>
          obtain ⟨k, A, m, c', hk, hmk, rfl, rfl, hO, hbr⟩ := hrel
          have hsz := hbr.size
          have hSr := hS1.below hbr
          by_cases hlt : 0 < k
          · obtain ⟨b', o', he, -, hcell⟩ := hSr.at_ (k := k - 1) (by omega)
            injection he with he; injection he with he1 he2; subst he1; subst he2
            have hrev := rev_take (l := l) (k := k - 1) (by rw [← hlen.out]; omega)
            rw [show k - 1 + 1 = k by omega] at hrev
            have HREV := Lib.hid hrev
            clear hrev
            obtain ⟨j, rfl⟩ : ∃ j, k = j + 1 := ⟨k - 1, by omega⟩
            rw [Nat.add_sub_cancel] at hcell HREV
            have ej : (((j + 1 : Nat) : Int) - 1) = (j : Int) := by omega
            rw [ej]
            clear ej
            go_wp2_with (at_builtin; refine wpList_app rfl _ _ _ rfl Try.underlying23 rfl rfl (hO.alloc _) (SI.one _ _) (by omega) (by simp; omega) ?_; intro A2 c2 w2 hO2 hg2 hat2)
            go_roundw
            case rel => exact ⟨j, A2, m + 1, c2, by omega, by omega, rfl, rfl, by rw [← HREV.out]; exact hO2, (hbr.alloc hsz _).grown hg2 (by simp; omega) fun q hq => (hO.lt q hq).1⟩
            case measure => first | (simp [intOf]; done) | (simp [intOf]; omega)
          · obtain rfl : k = 0 := by omega
            obtain rfl : m = n1 := by omega
            rw [List.drop_zero] at hO
            have hvr := vks_rev hv
            have hv2 := vks_twice (l := l) (room := 8) (by rw [← hlen.out]; omega)
            have hbwr : Below w.heap.size w wr := hb1.trans (hbr.mono z1)
            have hcell0 := si_zero hSr (by omega)
            have hOb : OI wr.drew w1.heap.size A m c' l.reverse := hO
            have hSd : SI (wr.drew) w1.heap.size (some ⟨b, o, none⟩) m c1 l := hSr
            have hm0 : (0 : Int) < (m : Int) := by omega
            have hbsz : b < wr.heap.size := by omega
            have hm1 : 0 < m := by omega
            go_wp2
            go_region_law (first
              | (refine step_appG rfl (.tmp 57) (.tmp 58) _ rfl Try.underlying23 rfl rfl (OI.lit _ w1.heap.size [] 0 rfl (by show _ ≤ wr.heap.size; omega) (by simp) _ rfl) (hSd.alloc (by show _ ≤ wr.heap.size; omega) _) (by omega) (by simp; omega) ?_; intro A4 c4 w4 hO4 hg4 hat4; rw [Nat.zero_add, List.nil_append] at hO4; have hS4 := ((hSd.alloc (by show _ ≤ wr.heap.size; omega) _).grown hg4 (by simp; omega) (by simp [blk]; omega)); have hcell4 := si_zero hS4 (by omega); have z4 := hg4.size; have hb4 : Below w.heap.size w w4 := (hbwr.alloc (by omega) (.cells #[] 3)).drew.grown hg4 (by simp; omega) (by simp [blk]; omega))
              | (refine step_appG rfl (.tmp 57) (.tmp 58) _ rfl Try.underlying23 rfl rfl ((OI.lit wr.drew w1.heap.size [] 0 rfl (by show _ ≤ wr.heap.size; omega) (by simp) #[] rfl).alloc _) ((hSd.alloc (by show _ ≤ wr.heap.size; omega) _).alloc (by simp; omega) _) (by omega) (by simp; omega) ?_; intro A4 c4 w4 hO4 hg4 hat4; rw [Nat.zero_add, List.nil_append] at hO4; have hS4 := (((hSd.alloc (by show _ ≤ wr.heap.size; omega) (.cells #[] 3)).alloc (by simp; omega) _).grown hg4 (by simp; omega) (by simp [blk]; omega)); have hcell4 := si_zero hS4 (by omega); have z4 := hg4.size; have hb4 : Below w.heap.size w w4 := ((hbwr.alloc (by omega) (.cells #[] 3)).alloc (by simp; omega) (.cells #[.int .i64 (gi l 0)] 3)).drew.grown hg4 (by simp; omega) (by simp [blk]; omega); have hX : SI w4 (wr.heap.size + 1 + 1) (some ⟨wr.heap.size + 1, 0, none⟩) 1 1 [gi l 0] := (by have := (SI.one (wr.drew.alloc (.cells #[] 3)) (gi l 0)).far hg4 (by simp) (by simp [blk]); simpa using this))
              | (refine step_appG rfl (.tmp 57) (.tmp 58) _ rfl Try.underlying23 rfl rfl (by have := OI.lit (wr.drew.alloc (.cells #[.int .i64 (gi l 0)] 3)) w1.heap.size [] 0 rfl (by simp; omega) (by simp) #[] rfl; simpa using this : OI ((wr.drew.alloc (.cells #[.int .i64 (gi l 0)] 3)).alloc (.cells #[] 3)) w1.heap.size (some ⟨wr.heap.size + 1, 0, none⟩) 0 0 []) ((hSd.alloc (by show _ ≤ wr.heap.size; omega) (.cells #[.int .i64 (gi l 0)] 3)).alloc (by simp; omega) _) (by omega) (by simp; omega) ?_; intro A4 c4 w4 hO4 hg4 hat4; rw [Nat.zero_add, List.nil_append] at hO4; have hS4 := (((hSd.alloc (by show _ ≤ wr.heap.size; omega) (.cells #[.int .i64 (gi l 0)] 3)).alloc (by simp; omega) _).grown hg4 (by simp; omega) (by simp [blk]; omega)); have hcell4 := si_zero hS4 (by omega); have z4 := hg4.size; have hb4 : Below w.heap.size w w4 := ((hbwr.alloc (by omega) (.cells #[.int .i64 (gi l 0)] 3)).alloc (by simp; omega) (.cells #[] 3)).drew.grown hg4 (by simp; omega) (by simp [blk]; omega); have hX : SI w4 (wr.heap.size + 1) (some ⟨wr.heap.size, 0, none⟩) 1 1 [gi l 0] := (by have := ((SI.one wr.drew (gi l 0)).alloc (by simp) (.cells #[] 3)).grown hg4 (by simp) (by simp [blk]); simpa using this))
              | (refine step_appG rfl (.tmp 59) (.tmp 63) _ rfl Try.underlying23 rfl rfl (hO4.alloc _) (SI.one _ _) (by omega) (by simp at z4 ⊢; omega) ?_; intro A5 c5 w5 hO5 hg5 hat5; have hb5 : Below w.heap.size w w5 := (hb4.alloc (by simp at z4; omega) _).grown hg5 (by simp at z4 ⊢; omega) fun q hq => Nat.le_trans z1 (hO4.lt q hq).1)
              | (refine step_appG rfl (.tmp 59) (.tmp 63) _ rfl Try.underlying23 rfl rfl hO4 hX (by omega) (by simp at z4 ⊢; omega) ?_; intro A5 c5 w5 hO5 hg5 hat5; have hb5 : Below w.heap.size w w5 := hb4.grown hg5 (by simp at z4; omega) fun q hq => Nat.le_trans z1 (hO4.lt q hq).1)
              | (go_simp; go_at_call 40; refine (by first | (with_reducible exact implValidKeys_c _ _ _ l.reverse room _ _ hOb.si) | (with_reducible exact implValidKeys_c _ _ _ (l ++ [gi l 0]) 8 _ _ hO5.si) : Calls _ _ _ _ _).mono ?_; rintro e w' ⟨rfl, rfl⟩))
            all_goals (go_wp2; go_ret; exact ⟨rfl, hb5⟩)
    · go_wp2_with (first | (go_at_call 40; refine (implValidKeys_c _ _ _ l _ _ _ hS1).mono ?_; rintro e w' ⟨rfl, rfl⟩) | (go_at_call 41; refine (specValidKeys_c _ _ _ l _ _ _ hS1).mono ?_; rintro e w' ⟨rfl, rfl⟩))
      go_ret
      exact ⟨rfl, hb1⟩
  · go_enter Try.func13, Try.ntmps13
    go_wp2
    go_ret
    exact ⟨rfl, Below.refl _ _⟩


end Go.Proofs.Ytgnkidmljcpheaa.fnValidKeys
