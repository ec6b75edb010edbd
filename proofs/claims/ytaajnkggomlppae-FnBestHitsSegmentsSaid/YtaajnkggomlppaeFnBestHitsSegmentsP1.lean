/- What the functions that the law reaches do, written as plain Lean. No statement is proved here. -/
import Derived.Test.YtaajnkggomlppaeFnBestHitsSegmentsP0
namespace Go.Ev
set_option linter.unusedVariables false
open Go
def F_impl_NextUse (t : List Int) (i : Int) (key : Int) (k : Int → Prop) : Prop := (VTrace t ∧ (0 ≤ i ∧ i ≤ t.length) ∧ 0 ≤ key ∧ key ≤ 31 → k (nextM t i key)) ∧ (¬ (VTrace t ∧ (0 ≤ i ∧ i ≤ t.length) ∧ 0 ≤ key ∧ key ≤ 31) → k (-1))
theorem F_impl_NextUse_S {t : List Int} {i : Int} {key : Int} {k : Int → Prop} (h : F_impl_NextUse t i key k) : S_impl_NextUse t i key k := by
  obtain ⟨hyes, hno⟩ := h
  intro b hb
  refine br_not.2 (br_iff.2 ⟨fun e => ?_, fun e => hno fun w => by rw [hb.2 w.1] at e; cases e⟩)
  have v := hb.1 e
  have hl := v.1
  refine br_not.2 (br_dec.2 ⟨fun hi => br_not.2 (br_dec.2 ⟨fun hkey => ?_, fun hkey => hno fun w => hkey w.2.2⟩), fun hi => hno fun w => hi w.2.1⟩)
  have hk := hyes ⟨v, hi, hkey⟩
  have hd : (t.drop i.toNat).length = t.length - i.toNat := List.length_drop
  refine ⟨hi, by omega, br_dec.2 ⟨fun hm => ?_, fun hm => ?_⟩⟩
  · have := plc_nxt (plc_ge.1 hm)
    have := nxt_le key (t.drop i.toNat)
    rw [show nextM t i key = i + plc (t.drop i.toNat) key by unfold nextM; omega] at hk
    exact ⟨inR (by omega) (by omega), hk⟩
  · have := nxt_out (fun c => hm (plc_ge.2 c))
    rw [show nextM t i key = (t.length : Int) by unfold nextM; omega] at hk
    exact hk
-- impl.latestKey
def T0_impl_latestKey (cache2 : List Int) (from1 : Int) (t0 : List Int) (xt14 : Int) (xlatest7 : Int) (xt15 : Int) (k : Int → Prop) (B0 : Int → Int → Prop) : Prop :=
  br (decide (xt15 < xt14))
  ((0 ≤ xt15 ∧ xt15 < (cache2.length : Int)) ∧
    F_impl_NextUse t0 from1 (List.getD cache2 (Int.toNat xt15) (0 : Int)) fun nextUse22 =>
    F_impl_NextUse t0 from1 xlatest7 fun nextUse26 =>
    br (decide (nextUse22 > nextUse26))
    (InR (xt15 + 1) ∧
      B0 (List.getD cache2 (Int.toNat xt15) (0 : Int)) (xt15 + 1))
    (InR (xt15 + 1) ∧
      B0 xlatest7 (xt15 + 1)))
  (k xlatest7)
def L0_impl_latestKey (cache2 : List Int) (from1 : Int) (t0 : List Int) (xt14 : Int) (k : Int → Prop) : Nat → Int → Int → Prop
  | 0, _, _ => False
  | n + 1, xlatest7, xt15 => T0_impl_latestKey cache2 from1 t0 xt14 xlatest7 xt15 k (L0_impl_latestKey cache2 from1 t0 xt14 k n)
def G_impl_latestKey (t0 : List Int) (from1 : Int) (cache2 : List Int) (I0 : List Int → Int → List Int → Int → Int → Int → Prop) : Prop :=
  (0 ≤ (0 : Int) ∧ 0 < (cache2.length : Int)) ∧
  I0 cache2 from1 t0 (cache2.length : Int) (List.getD cache2 0 (0 : Int)) 0
def S_impl_latestKey (t0 : List Int) (from1 : Int) (cache2 : List Int) (k : Int → Prop) : Prop := G_impl_latestKey t0 from1 cache2 (fun cache2 from1 t0 xt14 xlatest7 xt15 => ∃ j, L0_impl_latestKey cache2 from1 t0 xt14 k j xlatest7 xt15)
def F_impl_latestKey (t : List Int) (i : Int) (l : List Int) (k : Int → Prop) : Prop := (VTrace t ∧ (0 ≤ i ∧ i ≤ t.length) ∧ (0 < l.length ∧ l.length ≤ 1000000) ∧ ∀ x ∈ l, 0 ≤ x ∧ x ≤ 31) ∧ k (farM (t.drop i.toNat) l)
theorem F_impl_latestKey_S {t : List Int} {i : Int} {l : List Int} {k : Int → Prop} (h : F_impl_latestKey t i l k) : S_impl_latestKey t i l k := by
  obtain ⟨⟨v, hi, hp, hr⟩, hk⟩ := h
  have h0 : l.getD 0 0 ∈ l := mem_getD (by omega)
  have go : ∀ (m j : Nat), j + m = l.length → L0_impl_latestKey l i t (l.length : Int) k (m + 1) (farK (t.drop i.toNat) (l.take j) (l.getD 0 0)) (j : Int) := by
    intro m
    induction m with
    | zero =>
      intro j hj
      rw [L0_impl_latestKey, T0_impl_latestKey, List.take_of_length_le (by omega)]
      refine br_dec.2 ⟨fun h => by omega, fun _ => ?_⟩
      have : farK (t.drop i.toNat) l (l.getD 0 0) = farM (t.drop i.toNat) l := by
        cases l with
        | nil => simp at hp
        | cons y l => exact farK_self _ _ _
      rw [this]; exact hk
    | succ m ih =>
      intro j hj
      have next := ih (j + 1) (by omega)
      rw [take_get (by omega), farK_snoc] at next
      have hin : l.getD j 0 ∈ l := mem_getD (by omega)
      have hfar : farK (t.drop i.toNat) (l.take j) (l.getD 0 0) ∈ l := by
        rcases List.mem_cons.1 (farK_mem (t.drop i.toNat) (l.take j) (l.getD 0 0)) with h | h
        · rw [h]; exact h0
        · exact List.mem_of_mem_take h
      rw [L0_impl_latestKey, T0_impl_latestKey]
      simp only [Int.toNat_natCast]
      refine br_yd (by omega) ⟨⟨by omega, by omega⟩, yes ⟨v, hi, hr _ hin⟩ (yes ⟨v, hi, hr _ hfar⟩ (br_dec.2 ⟨fun g => ⟨inR (by omega) (by omega), ?_⟩, fun g => ⟨inR (by omega) (by omega), ?_⟩⟩))⟩
      · rw [if_pos (by unfold nextM at g; omega)] at next; exact next
      · rw [if_neg (by unfold nextM at g; omega)] at next; exact next
  exact ⟨⟨by omega, by omega⟩, _, go l.length 0 (by omega)⟩
-- impl.BestHits
def T0_impl_BestHits (room1 : Int) (t0 : List Int) (xt19 : Int) (xhits6 : Int) (xt20 : Int) (xcache5 : List Int) (k : Int → Prop) (B0 : Int → Int → List Int → Prop) : Prop :=
  br (decide (xt20 < xt19))
  ((0 ≤ xt20 ∧ xt20 < (t0.length : Int)) ∧
    F_slices_Contains_sint_int xcache5 (List.getD t0 (Int.toNat xt20) (0 : Int)) fun contains27 =>
    br contains27
    (InR (xhits6 + 1) ∧
      InR (xt20 + 1) ∧
      B0 (xhits6 + 1) (xt20 + 1) xcache5)
    (br ((xcache5.length : Int) == room1)
      (InR (xt20 + 1) ∧
        F_impl_latestKey t0 (xt20 + 1) xcache5 fun latestKey39 =>
        F_impl_withoutKey xcache5 latestKey39 fun withoutKey40 =>
        (withoutKey40.length + 1 ≤ 1000000000) ∧
        InR (xt20 + 1) ∧
        B0 xhits6 (xt20 + 1) (withoutKey40 ++ ([(List.getD t0 (Int.toNat xt20) (0 : Int))] : List Int)))
      ((xcache5.length + 1 ≤ 1000000000) ∧
        InR (xt20 + 1) ∧
        B0 xhits6 (xt20 + 1) (xcache5 ++ ([(List.getD t0 (Int.toNat xt20) (0 : Int))] : List Int)))))
  (k xhits6)
def L0_impl_BestHits (room1 : Int) (t0 : List Int) (xt19 : Int) (k : Int → Prop) : Nat → Int → Int → List Int → Prop
  | 0, _, _, _ => False
  | n + 1, xhits6, xt20, xcache5 => T0_impl_BestHits room1 t0 xt19 xhits6 xt20 xcache5 k (L0_impl_BestHits room1 t0 xt19 k n)
def G_impl_BestHits (t0 : List Int) (room1 : Int) (k : Int → Prop) (I0 : Int → List Int → Int → Int → Int → List Int → Prop) : Prop :=
  F_impl_ValidTrace t0 fun validTrace10 =>
  br (!validTrace10)
  (k (-1))
  (F_impl_validRoom room1 fun validRoom14 =>
    br (!validRoom14)
    (k (-1))
    (I0 room1 t0 (t0.length : Int) 0 0 ([] : List Int)))
def S_impl_BestHits (t0 : List Int) (room1 : Int) (k : Int → Prop) : Prop := G_impl_BestHits t0 room1 k (fun room1 t0 xt19 xhits6 xt20 xcache5 => ∃ j, L0_impl_BestHits room1 t0 xt19 k j xhits6 xt20 xcache5)
def F_impl_BestHits (t : List Int) (room : Int) (k : Int → Prop) : Prop := (VTrace t ∧ 1 ≤ room ∧ room ≤ 8 → k (bestM room.toNat t [] : Int)) ∧ (¬ (VTrace t ∧ 1 ≤ room ∧ room ≤ 8) → k (-1))
theorem F_impl_BestHits_S {t : List Int} {room : Int} {k : Int → Prop} (h : F_impl_BestHits t room k) : S_impl_BestHits t room k := by
  obtain ⟨hyes, hno⟩ := h
  intro b hb
  refine br_not.2 (br_iff.2 ⟨fun e => ?_, fun e => hno fun w => by rw [hb.2 w.1] at e; cases e⟩)
  have v := hb.1 e
  refine br_not.2 (br_dec.2 ⟨fun hr => ?_, fun hr => hno fun w => hr w.2⟩)
  have hk := hyes ⟨v, hr⟩
  have h0 := v.1
  have go : ∀ (r : List Int) (i : Nat) (n : Int) (C : List Int), t.drop i = r → 0 ≤ n → n ≤ i → C.Nodup → C.length ≤ room.toNat → (∀ x ∈ C, 0 ≤ x ∧ x ≤ 31) → n + (bestM room.toNat r C : Int) = (bestM room.toNat t [] : Int) → L0_impl_BestHits room t (t.length : Int) k (r.length + 1) n (i : Int) C := by
    intro r
    induction r with
    | nil =>
      intro i n C hd n0 n1 hn hc hC he
      have := drop_nil' hd
      rw [L0_impl_BestHits, T0_impl_BestHits]
      refine br_dec.2 ⟨fun h => by omega, fun _ => ?_⟩
      rw [show n = (bestM room.toNat t [] : Int) by simpa [bestM] using he]; exact hk
    | cons x r ih =>
      intro i n C hd n0 n1 hn hc hC he
      obtain ⟨g1, g2, g5, g3, g4⟩ := drop_cons' hd
      have hx := v.2 x (List.mem_of_getElem? g5)
      rw [List.length_cons, L0_impl_BestHits, T0_impl_BestHits]
      simp only [Int.toNat_natCast, g2]
      refine br_yd (by omega) ⟨⟨by omega, by omega⟩, by omega, br_dec.2 ⟨fun hm => ?_, fun hm => ?_⟩⟩
      · rw [bestM, if_pos hm] at he
        exact ⟨inR (by omega) (by omega), inR (by omega) (by omega), ih (i + 1) _ C g3 (by omega) (by omega) hn hc hC (by omega)⟩
      · rw [bestM, if_neg hm] at he
        obtain ⟨m1, m2, m3, m4⟩ := missB_ok (room := room.toNat) (r := r) (by omega) hn hc hm
        have last := ih (i + 1) n (missB room.toNat r C x) g3 n0 (by omega) m1 m2 (fun y hy => by
          rcases m4 y hy with h | h
          · rw [h]; exact hx
          · exact hC y h) he
        refine br_beq.2 ⟨fun hf => ⟨inR (by omega) (by omega), ⟨v, ⟨by omega, by omega⟩, ⟨by omega, by omega⟩, hC⟩, ?_⟩, fun hf => ?_⟩
        · rw [show ((i : Int) + 1).toNat = i + 1 by omega, g3]
          have := @rmK_le C (farM r C)
          rw [missB, if_pos (by omega)] at last
          exact ⟨by omega, by omega, inR (by omega) (by omega), last⟩
        · rw [missB, if_neg (by omega)] at last
          exact ⟨by omega, inR (by omega) (by omega), last⟩
  exact ⟨_, go t 0 0 [] rfl (by omega) (by omega) (by simp) (by simp) (by simp) (by omega)⟩
-- laws.FnBestHitsSegments
def G_laws_FnBestHitsSegments_j0 (runGate23Added : Int) (runGate23Main : List Int) (runGate23New : List Int) (runGate23Room : Int) (runGate23Sketch : List Int) (runGate23Window : Int) (runGate23r1 : Int) (runGate30Added : Int) (runGate30Main : List Int) (runGate30New : List Int) (runGate30Room : Int) (runGate30Sketch : List Int) (runGate30Window : Int) (runGate30r1 : Int) (k : Bool → Prop) : Prop :=
  F_laws_equalGate runGate23Window runGate23Room runGate23New runGate23Main runGate23Sketch runGate23Added runGate30Window runGate30Room runGate30New runGate30Main runGate30Sketch runGate30Added fun equalGate55 =>
  br equalGate55
  (k (runGate23r1 == runGate30r1))
  (k false)
def G_laws_FnBestHitsSegments (code0 : List Int) (k : Bool → Prop) : Prop :=
  br (decide ((code0.length : Int) > 1048576))
  (k true)
  (F_spec_DrawRunGate code0 fun drawRunGate15r0 drawRunGate15r1 drawRunGate15r2 =>
    F_impl_RunGate drawRunGate15r0 drawRunGate15r1 drawRunGate15r2 fun runGate23Window runGate23Room runGate23New runGate23Main runGate23Sketch runGate23Added runGate23r1 =>
    F_spec_RunGate drawRunGate15r0 drawRunGate15r1 drawRunGate15r2 fun runGate30Window runGate30Room runGate30New runGate30Main runGate30Sketch runGate30Added runGate30r1 =>
    F_laws_equalGate runGate23Window runGate23Room runGate23New runGate23Main runGate23Sketch runGate23Added runGate30Window runGate30Room runGate30New runGate30Main runGate30Sketch runGate30Added fun equalGate35 =>
    br (!equalGate35)
    (G_laws_FnBestHitsSegments_j0 runGate23Added runGate23Main runGate23New runGate23Room runGate23Sketch runGate23Window runGate23r1 runGate30Added runGate30Main runGate30New runGate30Room runGate30Sketch runGate30Window runGate30r1 k)
    (br (runGate23r1 != runGate30r1)
      (G_laws_FnBestHitsSegments_j0 runGate23Added runGate23Main runGate23New runGate23Room runGate23Sketch runGate23Window runGate23r1 runGate30Added runGate30Main runGate30New runGate30Room runGate30Sketch runGate30Window runGate30r1 k)
      (br (decide (runGate23r1 < 0))
        (G_laws_FnBestHitsSegments_j0 runGate23Added runGate23Main runGate23New runGate23Room runGate23Sketch runGate23Window runGate23r1 runGate30Added runGate30Main runGate30New runGate30Room runGate30Sketch runGate30Window runGate30r1 k)
        (InR (drawRunGate15r1 + drawRunGate15r2) ∧
          InR ((drawRunGate15r1 + drawRunGate15r2) + 1) ∧
          br (decide (((drawRunGate15r1 + drawRunGate15r2) + 1) > 8))
          (G_laws_FnBestHitsSegments_j0 runGate23Added runGate23Main runGate23New runGate23Room runGate23Sketch runGate23Window runGate23r1 runGate30Added runGate30Main runGate30New runGate30Room runGate30Sketch runGate30Window runGate30r1 k)
          (InR (drawRunGate15r1 + drawRunGate15r2) ∧
            InR ((drawRunGate15r1 + drawRunGate15r2) + 1) ∧
            F_impl_BestHits drawRunGate15r0 ((drawRunGate15r1 + drawRunGate15r2) + 1) fun bestHits67 =>
            k (decide (runGate23r1 ≤ bestHits67)))))))
def S_laws_FnBestHitsSegments (code0 : List Int) (k : Bool → Prop) : Prop := G_laws_FnBestHitsSegments code0 k
abbrev F_laws_FnBestHitsSegments (code0 : List Int) (k : Bool → Prop) : Prop := S_laws_FnBestHitsSegments code0 k
theorem F_laws_FnBestHitsSegments_S {code0 : List Int} {k : Bool → Prop} (h : F_laws_FnBestHitsSegments code0 k) : S_laws_FnBestHitsSegments code0 k := h
theorem law_FnBestHitsSegments (code : List Int) (hb : ∀ x ∈ code, 0 ≤ x ∧ x ≤ 255) : F_laws_FnBestHitsSegments code (fun r => r = true) := by
  refine br_dec.2 ⟨fun _ => rfl, fun hlen => ⟨hb, fun t w r l1 => ?_⟩⟩
  by_cases v : VTrace t ∧ (1 ≤ w ∧ w ≤ 8) ∧ 1 ≤ r ∧ r ≤ 8
  · have f := runG_facts v.1 v.2.1 v.2.2
    obtain ⟨r1, r2, r3⟩ := runG_valid t ⟨[], [], emptyM, 0⟩ 0 (gate0 v.2.1 v.2.2) v.1.2
    have hl := gate_len r1
    refine yes v (yes v ?_)
    have h1 := f.best
    have h2 := bestM_room (room := (w + r).toNat) (by omega) t
    generalize runG w r t ⟨[], [], emptyM, 0⟩ 0 = q at *
    refine equalGate_same (by omega) (by omega) (by omega) (br_nt (br_same' (br_nd (by omega) ⟨inR (by omega) (by omega), inR (by omega) (by omega), br_dec.2 ⟨fun _ => equalGate_same (by omega) (by omega) (by omega) (beq_t rfl), fun h => ⟨inR (by omega) (by omega), inR (by omega) (by omega), yes ⟨v.1, by omega, by omega⟩ (decide_eq_true ?_)⟩⟩⟩)))
    rw [show (w + r + 1).toNat = (w + r).toNat + 1 by omega]
    omega
  · exact nay v (nay v (equalGate_same (by simp) (by simp) (by simp) (br_nt (br_same' (br_yd (by omega) (equalGate_same (by simp) (by simp) (by simp) rfl))))))
end Go.Ev
