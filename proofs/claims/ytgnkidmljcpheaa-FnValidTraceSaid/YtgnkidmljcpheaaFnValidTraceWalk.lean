/- The walk of a law: Law FnValidTrace (P10): a valid trace without its last key, or its first one, is valid. -/
import Derived.Test.YtgnkidmljcpheaaRc
import Derived.Test.YtgnkidmljcpheaaFrame
namespace Go.Proofs.Ytgnkidmljcpheaa.fnValidTrace
open Go.RowKit

set_option maxRecDepth 100000 in
set_option maxHeartbeats 1000000 in
theorem walk (a : Option Addr) (n c : Nat) (z : List Int) (w : World) (h : Came .u8 w a n c z) :
    Calls Try.prog 12 #[.slice a n c] w (Law w) := by
  have hb := h.sb
  have hm : c ≤ 9223372036854775807 := by have := hb.2.2.1; simpa [maxLen] using this
  have hc := hb.2.1
  by_cases hn : n ≤ 1048576
  · go_enter Try.func12, Try.ntmps12
    go_wp2_with fail
    refine (drawValidTrace_c _ _ _ _ w hb).mono ?_
    rintro e w1 ⟨A1, n1, c1, l, rfl, hO1, hn1, hbd, hb1⟩
    have z1 := hb1.size
    have hc1 := hO1.le
    have hmx1 := hO1.si.max
    have hS1 := hO1.si
    rcases Bool.eq_false_or_eq_true (vtr l) with hv | hv
    · by_cases hn0 : n1 = 0
      · subst hn0
        go_wp2_with (first | (go_at_call 30; refine (implValidTrace_c _ _ _ l _ _ hS1).mono ?_; rintro e w' ⟨rfl, rfl⟩) | (go_at_call 31; refine (specValidTrace_c _ _ _ l _ _ hS1).mono ?_; rintro e w' ⟨rfl, rfl⟩))
        go_ret
        exact ⟨rfl, hb1⟩
      · obtain ⟨b, o, rfl, hbB, -, -⟩ := hO1.at_ (k := 0) (by omega)
        have hcut := hS1.cut (i := 0) (j := n1 - 1) (A' := some ⟨b, o, none⟩) (Nat.zero_le _) (by omega) (fun _ => rfl) (fun _ => by simp [Addr.add])
        simp only [Nat.sub_zero, List.drop_zero] at hcut
        have hv1 : vtr (l.take (n1 - 1)) = true := vtr_of (by have := vtr_len hv; simp; omega) (allR_take (vtr_all hv) _)
        have hv2 : vtr ((l.drop 1).take (n1 - 1)) = true := vtr_of (by have := vtr_len hv; simp; omega) (allR_take (allR_drop (vtr_all hv) _) _)
        have hv3 : vtr [] = true := rfl
        have hnil : SI w1 0 none 0 0 [] := ⟨rfl, Nat.le_refl _, Nat.zero_le _, .inl ⟨rfl, rfl⟩⟩
        by_cases hc : c1 = 1
        · have hcut2 := hS1.cut (i := 1) (j := n1) (A' := some ⟨b, o, none⟩) (by omega) (Nat.le_refl _) (fun _ => rfl) (fun h => absurd hc h)
          generalize l.take (n1 - 1) = t at hcut hv1
          generalize (l.drop 1).take (n1 - 1) = d at hcut2 hv2
          subst hc
          obtain rfl : n1 = 1 := by omega
          go_wp2_with (first | (go_at_call 30; refine (by first | exact implValidTrace_c _ _ _ l _ _ hS1 | exact implValidTrace_c _ _ _ _ _ _ hcut | exact implValidTrace_c _ _ _ _ _ _ hcut2 | exact implValidTrace_c _ _ _ _ _ _ hnil : Calls _ _ _ _ _).mono ?_; rintro e w' ⟨rfl, rfl⟩) | (go_at_call 31; refine (specValidTrace_c _ _ _ l _ _ hS1).mono ?_; rintro e w' ⟨rfl, rfl⟩))
          go_ret
          exact ⟨rfl, hb1⟩
        · have hcut2 := hS1.cut (i := 1) (j := n1) (A' := some ⟨b, o + 1, none⟩) (by omega) (Nat.le_refl _) (fun h => absurd h hc) (fun _ => by simp [Addr.add])
          generalize l.take (n1 - 1) = t at hcut hv1
          generalize (l.drop 1).take (n1 - 1) = d at hcut2 hv2
          have hd0 : ((n1 : Int) == 0) = false := by simp; omega
          go_wp2_with (first | (go_at_call 30; refine (by first | exact implValidTrace_c _ _ _ l _ _ hS1 | exact implValidTrace_c _ _ _ _ _ _ hcut | exact implValidTrace_c _ _ _ _ _ _ hcut2 | exact implValidTrace_c _ _ _ _ _ _ hnil : Calls _ _ _ _ _).mono ?_; rintro e w' ⟨rfl, rfl⟩) | (go_at_call 31; refine (specValidTrace_c _ _ _ l _ _ hS1).mono ?_; rintro e w' ⟨rfl, rfl⟩))
          go_ret
          exact ⟨rfl, hb1⟩
    · go_wp2_with (first | (go_at_call 30; refine (implValidTrace_c _ _ _ l _ _ hS1).mono ?_; rintro e w' ⟨rfl, rfl⟩) | (go_at_call 31; refine (specValidTrace_c _ _ _ l _ _ hS1).mono ?_; rintro e w' ⟨rfl, rfl⟩))
      go_ret
      exact ⟨rfl, hb1⟩
  · go_enter Try.func12, Try.ntmps12
    go_wp2
    go_ret
    exact ⟨rfl, Below.refl _ _⟩


end Go.Proofs.Ytgnkidmljcpheaa.fnValidTrace
