/- The walk of a law: Law FnUseRecent (P13): UseRecent sets the key in front, drops it behind, keeps the order of the others, cuts to room. -/
import Derived.Test.YtgnkidmljcpheaaRcB
import Derived.Test.YtgnkidmljcpheaaDrawD
import Derived.Test.YtgnkidmljcpheaaFrame
namespace Go.Proofs.Ytgnkidmljcpheaa.fnUseRecent
open Go.RowKit

theorem recL_cons {l : List Int} {r : Nat} (hr : 1 ≤ r) (key : Int) : ∃ j, recL l r key = key :: (l.filter (nk key)).take j ∧ (recL l r key).length = j + 1 ∧ j ≤ (l.filter (nk key)).length := by
  obtain ⟨s, rfl⟩ : ∃ s, r = s + 1 := ⟨r - 1, by omega⟩
  refine ⟨min s (l.filter (nk key)).length, ?_, ?_, Nat.min_le_right _ _⟩
  · simp only [recL, List.take_succ_cons]
    congr 1
    rcases Nat.le_total s (l.filter (nk key)).length with h | h
    · rw [Nat.min_eq_left h]
    · rw [Nat.min_eq_right h, List.take_of_length_le h, List.take_of_length_le (Nat.le_refl _)]
  · simp [recL]
theorem recL_vks {l : List Int} {rm : Nat} {key : Int} (hv : vks l (rm : Int) = true) (hk : inR 0 31 key = true) : vks (recL l rm key) (rm : Int) = true := by
  obtain ⟨⟨r1, r2⟩, _, r4, r5⟩ := vks_iff.1 hv
  refine vks_yes r1 r2 ?_ (recL_all r4 hk) (decide_eq_true (recL_nodup rm key (of_decide_eq_true r5)))
  have := recL_len l rm key
  omega

set_option maxRecDepth 100000 in
set_option maxHeartbeats 1000000 in
theorem walk (a : Option Addr) (n c : Nat) (z : List Int) (w : World) (h : Came .u8 w a n c z) :
    Calls Try.prog 14 #[.slice a n c] w (Law w) := by
  have hb := h.sb
  have hm : c ≤ 9223372036854775807 := by have := hb.2.2.1; simpa [maxLen] using this
  have hc := hb.2.1
  by_cases hn : n ≤ 1048576
  · go_enter Try.func14, Try.ntmps14
    go_wp2_with fail
    refine (drawUseRecent_c _ _ _ _ w hb).mono ?_
    rintro e w1 ⟨A1, n1, c1, l, room, key, rfl, hO1, hn1, hbd, hroom, hkey, hb1⟩
    have z1 := hb1.size
    have hc1 := hO1.le
    have hmx1 := hO1.si.max
    have hS1 := hO1.si
    go_wp2_with fail
    refine (implUseRecent_c _ _ _ l room key w1 hS1).mono ?_
    rintro e w2 ⟨A2, n2, c2, rfl, hO2, hb2⟩
    have z2 := hb2.size
    go_wp2_with fail
    refine (specUseRecent_c _ _ _ l room key w2 ((hS1.below hb2).more z2)).mono ?_
    rintro e w3 ⟨A3, n3, c3, rfl, hO3, hb3⟩
    have z3 := hb3.size
    have hO2' := hO2.below hb3
    have hbw3 : Below w.heap.size w w3 := (hb1.trans (hb2.mono z1)).trans (hb3.mono (by omega))
    go_wp2_with fail
    refine (equalInts_c _ _ _ _ _ _ _ _ _ _ _ hO2'.si hO3.si).mono ?_
    rintro e w4 ⟨rfl, q, rfl⟩
    have hE := eqL_self (useRL l room key)
    have hBB : ∀ b : Bool, (b == b) = true ∧ (b != b) = false := by intro b; cases b <;> simp
    have hB1 := (hBB (useRB l room key)).1
    have hB2 := (hBB (useRB l room key)).2
    clear hBB
    rcases Bool.eq_false_or_eq_true (vks l room) with hv | hv
    · rcases Bool.eq_false_or_eq_true (inR 0 31 key) with hk | hk
      · obtain ⟨e1, e2⟩ := useR_yes hv hk
        obtain ⟨⟨r1, r2⟩, r3, r4, r5⟩ := vks_iff.1 hv
        obtain ⟨rm, rfl⟩ := Int.eq_ofNat_of_zero_le (show 0 ≤ room by omega)
        rw [Int.toNat_natCast] at e1
        have hvr := recL_vks hv hk
        obtain ⟨j, f1, f2, f3⟩ := recL_cons (l := l) (show 1 ≤ rm by omega) key
        have hl2 := hO2.len
        rw [e1, f2] at hl2
        have hS4 := (((hS1.below hb2).more z2).below hb3).drewN q
        have hT4 := hO2'.drewN q
        rw [e1] at hT4
        rw [e2] at hB1 hB2
        obtain rfl := hl2
        have HE := Lib.hid e1
        have HF := Lib.hid f1
        have HF2 := Lib.hid f2
        have hlen := Lib.hid hS1.len
        clear e1 f1 f2 r3
        have hj0 : ((j : Int) + 1 == 0) = false := by simp; omega
        go_wp2
        have hO0 := OI.lit (w3.drewN q) w3.heap.size [] 0 rfl (Nat.le_refl _) (by simp) #[] rfl
        have hb0 : Below w3.heap.size (w3.drewN q) ((w3.drewN q).alloc (.cells #[] 3)) := Below.alloc (Below.refl w3.heap.size (w3.drewN q)) (Nat.le_refl w3.heap.size) _
        go_loopw [10, 11] (fun v i wr => ∃ (k : Nat) (A : Option Addr) (m c : Nat), k ≤ n1 ∧ m ≤ k ∧ i = .int .i64 k ∧ v = .slice A m c ∧ OI wr w3.heap.size A m c ((l.take k).filter (nk key)) ∧ Below w3.heap.size (w3.drewN q) wr) (fun _ i _ => n1 - (intOf i).toNat)
        case atStart => exact ⟨0, _, 0, 0, Nat.zero_le _, Nat.le_refl _, rfl, rfl, hO0, hb0⟩
        case round =>
          obtain ⟨k, A, m, c', hk2, hmk, rfl, rfl, hO, hbr⟩ := hrel
          have hsz : w3.heap.size ≤ wr.heap.size := hbr.size
          have hSr : SI wr w2.heap.size A1 n1 c1 l := hS4.keep fun p hp => hbr.cell (by omega)
          by_cases hlt : k < n1
          · obtain ⟨b, o, rfl, hbB, hcell⟩ := hSr.at_ hlt
            have HF3 := Lib.hid (filter_snoc (x := key) (l := l) (k := k) (by rw [← hlen.out]; exact hlt))
            rcases Bool.eq_false_or_eq_true (gi l k != key) with hx | hx
            · go_wp2_with (at_builtin; refine wpList_app rfl _ _ _ rfl Try.underlying23 rfl rfl (hO.alloc _) (SI.one _ _) (by omega) (by simp; omega) ?_; intro A5 c5 w5 hO5 hg5 hat5)
              go_roundw
              case rel => exact ⟨k + 1, A5, m + 1, c5, by omega, by omega, by go_num, rfl, by rw [HF3.out, if_neg (by simpa using hx)]; exact hO5, (hbr.alloc hsz _).grown hg5 (by simp; omega) fun q hq => (hO.lt q hq).1⟩
              case measure => simp [intOf]; omega
            · go_wp2
              go_roundw
              case rel => exact ⟨k + 1, A, m, c', by omega, by omega, by go_num, rfl, by rw [HF3.out, if_pos (by simpa using hx), List.append_nil]; exact hO, hbr⟩
              case measure => simp [intOf]; omega
          · obtain rfl : k = n1 := by omega
            rw [List.take_of_length_le (by rw [hlen.out]; exact Nat.le_refl _)] at hO
            have hbwr : Below w.heap.size w wr := (below_dR hbw3 q).trans (hbr.mono (by omega))
            have hTr : OI wr w1.heap.size A2 (j + 1) c2 (recL l rm key) := hT4.below hbr
            have hTd : OI wr.drew w1.heap.size A2 (j + 1) c2 (recL l rm key) := hTr
            obtain ⟨g, o, rfl, hgB, hcell, hfr⟩ := hTr.at_ (k := 0) (by omega)
            have hg0 : gi (recL l rm key) 0 = key := by rw [HF.out]; rfl
            rw [hg0, Nat.add_zero] at hcell
            clear hg0
            have hmF := hO.len
            have hjm : (j : Int) ≤ (m : Int) := by omega
            have b1 : (1 : Int) ≤ (j : Int) + 1 := by omega
            clear hmF
            have b2 : (0 : Int) ≤ (j : Int) := by omega
            have b3 : (m : Int) ≤ (c' : Int) := by have := hO.le; omega
            have b4 : (j : Int) + 1 ≤ (c2 : Int) := by have := hTr.le; omega
            have b5 : (j : Int) ≤ (c' : Int) := by omega
            have hjn : j ≤ m := by omega
            have hcB := hO.si.cut (i := 0) (j := j) (A' := A) (Nat.zero_le _) hjn (fun _ => rfl) (fun _ => by cases A <;> simp [Addr.add])
            have hR1 : ((recL l rm key).drop 1).take j = (l.filter (nk key)).take j := by rw [HF.out]; simp [List.take_take]
            have hval : SI wr wr.heap.size (some ⟨g, o, none⟩) (j + 1) c2 (recL l rm key) := hTr.si
            simp only [Nat.sub_zero, List.drop_zero] at hcB
            have hET := eqL_self ((l.filter (nk key)).take j)
            go_wp2
            by_cases hc : c2 = 1
            · subst hc
              obtain rfl : j = 0 := by omega
              have hcA : SI wr wr.heap.size (some ⟨g, o, none⟩) 0 0 [] := by
                have := hTr.si.cut (i := 1) (j := 1) (A' := some ⟨g, o, none⟩) (by omega) (Nat.le_refl _) (fun _ => rfl) (fun h => absurd rfl h)
                simpa using this
              have hcB0 : SI wr wr.heap.size A 0 c' [] := by simpa using hcB
              have hval1 : SI wr wr.heap.size (some ⟨g, o, none⟩) 1 1 (recL l rm key) := hval
              have hET0 := eqL_self []
              clear hR1 hval hET hcB
              have w1' : IntKind.i64.wrap (0 : Int) = 0 := IntWalk.i64_in _ (by omega)
              have w2' : IntKind.i64.wrap ((0 : Int) + 1 - 1) = 0 := IntWalk.i64_in _ (by omega)
              go_quiet ((first
                | (go_at_call 45; exact Calls.quiet_of_same ((lawsIsIn_c _ _ _ l _ _ _ (hSr.drewN _)).mono fun _ _ h => ⟨h.1, h.2.symm⟩))
                | (go_at_call 27; exact Calls.quiet_of (equalInts_c _ _ _ _ _ _ [] [] _ _ _ (hcA.drewN _) (hcB0.drewN _)))
                | (go_at_call 40; exact Calls.quiet_of_same ((implValidKeys_c _ _ _ _ _ _ _ (hval1.drewN _)).mono fun _ _ h => ⟨h.1, h.2.symm⟩))))
              go_wp2
              go_ret
              exact ⟨rfl, below_dR hbwr _⟩
            · have hcA := hTr.si.cut (i := 1) (j := j + 1) (A' := some ⟨g, o + 1, none⟩) (by omega) (Nat.le_refl _) (fun h => absurd h hc) (fun _ => by simp [Addr.add])
              rw [Nat.add_sub_cancel, hR1] at hcA
              clear hR1
              generalize (l.filter (nk key)).take j = T at *
              have w1' : IntKind.i64.wrap (j : Int) = (j : Int) := IntWalk.i64_in _ (by omega)
              have w2' : IntKind.i64.wrap ((j : Int) + 1 - 1) = (j : Int) := by rw [Int.add_sub_cancel]; exact w1'
              go_quiet ((first
                | (go_at_call 45; exact Calls.quiet_of_same ((lawsIsIn_c _ _ _ l _ _ _ (hSr.drewN _)).mono fun _ _ h => ⟨h.1, h.2.symm⟩))
                | (go_at_call 27; exact Calls.quiet_of (equalInts_c _ _ _ _ _ _ T T _ _ _ (hcA.drewN _) (hcB.drewN _)))
                | (go_at_call 40; exact Calls.quiet_of_same ((implValidKeys_c _ _ _ _ _ _ _ (hval.drewN _)).mono fun _ _ h => ⟨h.1, h.2.symm⟩))))
              go_wp2
              go_ret
              exact ⟨rfl, below_dR hbwr _⟩
      · obtain ⟨e1, e2⟩ := useR_no2 (l := l) (room := room) hk
        have hL := hO2.len
        rw [e1] at hL
        obtain rfl : n2 = 0 := hL
        go_wp2_with fail
        rw [e1] at hO2' hO3 hE
        rw [e2] at hB1 hB2
        refine (equalInts_c _ _ _ _ _ _ _ _ _ _ _ (hO2'.si.drewN q) (hO3.si.drewN q)).mono ?_
        rintro e w6 ⟨rfl, q6, rfl⟩
        go_wp2
        go_ret
        exact ⟨rfl, below_dR hbw3 (q + q6)⟩
    · obtain ⟨e1, e2⟩ := useR_no1 (l := l) (room := room) (key := key) hv
      have hL := hO2.len
      rw [e1] at hL
      obtain rfl : n2 = 0 := hL
      go_wp2_with fail
      rw [e1] at hO2' hO3 hE
      rw [e2] at hB1 hB2
      refine (equalInts_c _ _ _ _ _ _ _ _ _ _ _ (hO2'.si.drewN q) (hO3.si.drewN q)).mono ?_
      rintro e w6 ⟨rfl, q6, rfl⟩
      go_wp2
      go_ret
      exact ⟨rfl, below_dR hbw3 (q + q6)⟩
  · go_enter Try.func14, Try.ntmps14
    go_wp2
    go_ret
    exact ⟨rfl, Below.refl _ _⟩


end Go.Proofs.Ytgnkidmljcpheaa.fnUseRecent
