/- Contracts: toIntS, eqIntS, markIntS, heldIntS of the exact laws. No statement is proved here. -/
import Derived.Test.YtgnkidmljcpheacRcD
namespace Go.Proofs.Ytgnkidmljcpheac
open Go.RowKit

set_option maxHeartbeats 1000000 in
theorem toIntS_c (A : Option Addr) (n c : Nat) (l : List Int) (w : World) (h : SI w w.heap.size A n c l) (hn : n ≤ 2000000) :
    Calls Try.prog 24 #[.slice A n c] w (Gives w l) := by
  have hc := h.le
  have hm := h.max
  have HL := Lib.hid h.len
  go_enter Try.func24, Try.ntmps24
  go_wp2_with (at_make; refine wpList_mk rfl _ _ _ rfl Try.underlying23 n rfl rfl (by omega) (Nat.le_refl _) ?_; intro w1 hO1 hg1)
  have hb1 : Below w.heap.size w w1 := (Below.refl _ _).grown hg1 (Nat.le_refl _) (by simp)
  clear hg1
  go_loopw [4] (fun i wr => ∃ k : Nat, k ≤ n ∧ i = .int .i64 k ∧ OI wr w.heap.size (some ⟨w.heap.size, 0, none⟩) n n (part l n k) ∧ Below w.heap.size w wr) (fun i _ => n - (intOf i).toNat)
  case atStart => exact ⟨0, Nat.zero_le _, rfl, by rw [part_zero]; exact hO1, hb1⟩
  case round =>
    obtain ⟨k, hk2, rfl, hO, hb⟩ := hrel
    by_cases hlt : k < n
    · obtain ⟨b, o, rfl, hbB, hcell⟩ := h.at_ hlt
      obtain ⟨g, o2, he, hg, hcell2, hfr⟩ := hO.at_ hlt
      injection he with he; injection he with he1 he2
      subst he1; subst he2
      rw [Nat.zero_add] at hcell2 hfr
      have HC : wr.cell? ⟨b, o + k, none⟩ = some (.int .i64 (gi l k)) := (hb.cell (p := ⟨b, o + k, none⟩) hbB).trans hcell
      go_wp2
      go_roundw
      case rel => exact ⟨k + 1, by omega, by go_num, by have := hO.store hlt (gi l k); rw [Nat.zero_add, part_set HL.out.symm hlt] at this; exact this, hb.setCell hg _⟩
      case measure => simp [intOf]; omega
    · obtain rfl : k = n := by omega
      go_wp2
      go_ret
      exact ⟨_, _, _, rfl, by rw [part_full HL.out.symm] at hO; exact hO, hb⟩

theorem eqIntS_c (A A2 : Option Addr) (n c n2 c2 : Nat) (l r : List Int) (w : World) (B B2 : Nat) (h : SI w B A n c l) (h2 : SI w B2 A2 n2 c2 r) :
    Calls Try.prog 26 #[.slice A n c, .slice A2 n2 c2] w fun e w' => e = .returned (.bool (eqL l r)) ∧ Quiet w w' := by
  have hc := h.le
  have hm := h.max
  have hc2 := h2.le
  have hm2 := h2.max
  by_cases hn : n = n2
  · subst hn
    go_enter Try.func26, Try.ntmps26
    go_wp2
    go_loopw [5] (fun i wr => ∃ k : Nat, k ≤ n ∧ i = .int .i64 k ∧ (∀ j, j < k → gi l j = gi r j) ∧ ∃ q, wr = w.drewN q) (fun i _ => n - (intOf i).toNat)
    case atStart => exact ⟨0, Nat.zero_le _, rfl, fun j hj => by omega, 0, rfl⟩
    case round =>
      obtain ⟨k, hk, rfl, hr, q, rfl⟩ := hrel
      have HR := Lib.hid hr
      clear hr
      by_cases hlt : k < n
      · obtain ⟨b, o, rfl, hb, hcell⟩ := h.at_ hlt
        obtain ⟨b2, o2, rfl, hb2, hcell2⟩ := h2.at_ hlt
        rcases Bool.eq_false_or_eq_true (gi l k != gi r k) with hx | hx
        all_goals
          go_wp2
          go_quiet (fail)
          go_wp2
        · go_ret
          refine ⟨ret_bool ?_, ⟨_, World.drewN_drewN _ _ _⟩⟩
          refine (decide_eq_false fun e => ?_).symm
          subst e; simp at hx
        · go_roundw
          case rel =>
            refine ⟨k + 1, by omega, by go_num, fun j hj => ?_, ⟨_, rfl⟩⟩
            rcases Nat.lt_or_ge j k with hjk | hjk
            · exact HR.out j hjk
            · obtain rfl : j = k := by omega
              simpa using hx
          case measure => simp [intOf]; omega
      · go_wp2
        go_ret
        have hk' : k = n := by omega
        exact ⟨ret_bool (eqL_true.2 (take_ext HR.out (by rw [← h.len]; exact hk') (by rw [← h2.len]; exact hk'))).symm, ⟨_, rfl⟩⟩
  · have hne : ((n : Int) != (n2 : Int)) = true := by simp; omega
    go_enter Try.func26, Try.ntmps26
    go_wp2
    go_ret
    refine ⟨ret_bool ?_, Quiet.refl _⟩
    refine (decide_eq_false fun e => hn ?_).symm
    rw [h.len, h2.len, e]

/-- The numbers k, k+1, .. -/
def marks (k : Int) : Nat → List Int
  | 0 => []
  | n + 1 => marks k n ++ [k + (n : Int)]
theorem marks_len (k : Int) : ∀ n, (marks k n).length = n
  | 0 => rfl
  | n + 1 => by simp [marks, marks_len k n]
theorem gi_marks (k : Int) : ∀ (n i : Nat), i < n → gi (marks k n) i = k + (i : Int)
  | n + 1, i, h => by
    unfold marks
    rcases Nat.lt_or_ge i n with h1 | h1
    · rw [gi_append_left (by rw [marks_len]; exact h1), gi_marks k n i h1]
    · obtain rfl : i = n := by omega
      rw [gi_append_right (by rw [marks_len]; exact Nat.le_refl _), marks_len, Nat.sub_self]; rfl
/-- What stands there when the first j are marked. -/
def mkd (k : Int) (l : List Int) (j : Nat) : List Int := marks k j ++ l.drop j
theorem mkd_zero (k : Int) (l : List Int) : mkd k l 0 = l := by simp [mkd, marks]
theorem mkd_full {k : Int} {l : List Int} {n : Nat} (h : n = l.length) : mkd k l n = marks k n := by simp [mkd, h]
theorem mkd_set {k : Int} {l : List Int} {j : Nat} (h : j < l.length) : (mkd k l j).set j (k + (j : Int)) = mkd k l (j + 1) := by
  unfold mkd
  rw [drop_gi h, List.set_append_right _ _ (by rw [marks_len]; exact Nat.le_refl _), marks_len, Nat.sub_self]
  simp [marks]

set_option maxHeartbeats 1000000 in
theorem markIntS_c (A : Option Addr) (n c : Nat) (l : List Int) (k : Int) (w : World) (B : Nat) (h : OI w B A n c l) (hn : n ≤ 2000000) (hk : 0 ≤ k) (hk2 : k ≤ 10000000) :
    Calls Try.prog 29 #[.slice A n c, .int .i64 k] w fun e w' => e = .returned (.int .i64 (k + (n : Int))) ∧ OI w' B A n c (marks k n) ∧ w.grownBy w' (blk A) := by
  have hc := h.le
  have hm := h.si.max
  have HL := Lib.hid h.len
  go_enter Try.func29, Try.ntmps29
  go_wp2
  go_loopw [5, 1] (fun i x wr => ∃ j : Nat, j ≤ n ∧ i = .int .i64 j ∧ x = .int .i64 (k + (j : Int)) ∧ OI wr B A n c (mkd k l j) ∧ w.grownBy wr (blk A)) (fun i _ _ => n - (intOf i).toNat)
  case atStart => exact ⟨0, Nat.zero_le _, rfl, by simp, by rw [mkd_zero]; exact h, ⟨rfl, rfl, rfl, Nat.le_refl _, fun _ _ _ => rfl⟩⟩
  case round =>
    obtain ⟨j, hj, rfl, rfl, hO, hg⟩ := hrel
    by_cases hlt : j < n
    · obtain ⟨g, o, rfl, hgB, hcell, hfr⟩ := hO.at_ hlt
      go_wp2
      go_roundw
      case rel =>
        refine ⟨j + 1, by omega, by go_num, by first | rfl | (congr 1; omega), ?_, ?_⟩
        · have := hO.store hlt (k + (j : Int))
          rw [mkd_set (by rw [← HL.out]; exact hlt)] at this
          exact this
        · exact ⟨hg.os, hg.tape, hg.output, by simpa [World.setCell] using hg.size, fun i hi hne => (Below.heap_setCell wr _ _ i (fun e => hne (by simp [blk, e]))).trans (hg.block i hi hne)⟩
      case measure => simp [intOf]; omega
    · obtain rfl : j = n := by omega
      go_wp2
      go_ret
      exact ⟨rfl, by rw [mkd_full HL.out] at hO; exact hO, hg⟩

set_option maxHeartbeats 1000000 in
theorem heldIntS_c (A : Option Addr) (n c : Nat) (k : Int) (w : World) (B : Nat) (h : SI w B A n c (marks k n)) (hn : n ≤ 2000000) (hk : 0 ≤ k) (hk2 : k ≤ 10000000) :
    Calls Try.prog 30 #[.slice A n c, .int .i64 k] w fun e w' => e = .returned (.int .i64 (k + (n : Int))) ∧ w = w' := by
  have hc := h.le
  have hm := h.max
  go_enter Try.func30, Try.ntmps30
  go_wp2
  go_loop [5, 1] (fun i x => ∃ j : Nat, j ≤ n ∧ i = .int .i64 j ∧ x = .int .i64 (k + (j : Int))) (fun i _ => n - (intOf i).toNat)
  case atStart => exact ⟨0, Nat.zero_le _, rfl, by simp⟩
  case round =>
    obtain ⟨j, hj, rfl, rfl⟩ := hrel
    by_cases hlt : j < n
    · obtain ⟨b, o, rfl, hbB, hcell⟩ := h.at_ hlt
      rw [gi_marks k n j hlt] at hcell
      have hne : (k + (j : Int) != k + (j : Int)) = false := by simp
      go_wp2
      go_round
      case rel => exact ⟨j + 1, by omega, by go_num, by first | rfl | (congr 1; omega)⟩
      case measure => simp [intOf]; omega
    · obtain rfl : j = n := by omega
      go_wp2
      go_ret
      exact ⟨rfl, rfl⟩

/-- Two lists of which the one was there before the other lie in other blocks. -/
theorem OI.apart {w w' : World} {B B' n c n' c' : Nat} {A A' : Option Addr} {l l' : List Int} (h : OI w B A n c l) (h' : OI w' B' A' n' c' l') (hle : w.heap.size ≤ B') : (blk A = none ∨ blk A ≠ blk A') ∧ (blk A' = none ∨ blk A' ≠ blk A) := by
  have h1 := h.lt
  have h2 := h'.lt
  cases e : blk A with
  | none => exact ⟨.inl rfl, by cases e' : blk A' <;> simp⟩
  | some x =>
    cases e' : blk A' with
    | none => exact ⟨.inr (by simp), .inl rfl⟩
    | some y =>
      have a1 := (h1 x e).2
      have a2 := (h2 y e').1
      exact ⟨.inr fun h => by injection h; omega, .inr fun h => by injection h; omega⟩
theorem Quiet.below {w w' : World} (h : Quiet w w') : Below w.heap.size w w' := by
  obtain ⟨q, rfl⟩ := h
  exact ⟨rfl, rfl, rfl, Nat.le_refl _, fun _ _ => rfl⟩

end Go.Proofs.Ytgnkidmljcpheac
