/- Contracts: first, UseFirst, toInt, runTrace, RunRecent, RunFirst (chapter 2). No statement is proved here. -/
import Derived.Test.YtgnkidmljcpheacRcB
namespace Go.Proofs.Ytgnkidmljcpheac
open Go.RowKit

/-- The cache after a key, the oldest one going. -/
def firL (l : List Int) (room : Nat) (key : Int) : List Int := if key ∈ l then l else (l ++ [key]).drop (l.length + 1 - room)
theorem firL_hit {l : List Int} {room : Nat} {key : Int} (h : key ∈ l) : firL l room key = l := if_pos h
theorem firL_miss {l : List Int} {room : Nat} {key : Int} (h : key ∉ l) : firL l room key = (l ++ [key]).drop (l.length + 1 - room) := if_neg h
theorem firL_len {l : List Int} {room : Nat} {key : Int} (h : l.length ≤ room) : (firL l room key).length ≤ room := by
  unfold firL; split
  · exact h
  · simp; omega
theorem firL_nodup {l : List Int} (room : Nat) (key : Int) (h : l.Nodup) : (firL l room key).Nodup := by
  unfold firL; split
  · exact h
  · rename_i hm
    refine List.Nodup.sublist (List.drop_sublist _ _) (List.nodup_append.2 ⟨h, by simp, ?_⟩)
    intro x hx y hy
    simp at hy
    subst hy
    exact fun e => hm (e ▸ hx)
theorem firL_all {l : List Int} {room : Nat} {key : Int} (h : allR 0 31 l = true) (hk : inR 0 31 key = true) : allR 0 31 (firL l room key) = true := by
  unfold firL; split
  · exact h
  · refine allR_of fun x hx => ?_
    rcases List.mem_append.1 (List.mem_of_mem_drop hx) with e | e
    · exact allR_mem h e
    · simp at e; subst e; exact inR_true.1 hk
theorem recL_vks {l : List Int} {rm : Nat} {key : Int} (hv : vks l (rm : Int) = true) (hk : inR 0 31 key = true) : vks (recL l rm key) (rm : Int) = true := by
  obtain ⟨⟨r1, r2⟩, _, r4, r5⟩ := vks_iff.1 hv
  refine vks_yes r1 r2 ?_ (recL_all r4 hk) (decide_eq_true (recL_nodup rm key (of_decide_eq_true r5)))
  have := recL_len l rm key
  omega
theorem firL_vks {l : List Int} {rm : Nat} {key : Int} (hv : vks l (rm : Int) = true) (hk : inR 0 31 key = true) : vks (firL l rm key) (rm : Int) = true := by
  obtain ⟨⟨r1, r2⟩, r3, r4, r5⟩ := vks_iff.1 hv
  refine vks_yes r1 r2 ?_ (firL_all r4 hk) (decide_eq_true (firL_nodup rm key (of_decide_eq_true r5)))
  have := firL_len (l := l) (room := rm) (key := key) (by omega)
  omega
def useFL (l : List Int) (room key : Int) : List Int := if vks l room && inR 0 31 key then firL l room.toNat key else []
theorem useF_yes {l : List Int} {room key : Int} (h1 : vks l room = true) (h2 : inR 0 31 key = true) : useFL l room key = firL l room.toNat key ∧ useRB l room key = hasL l key := by
  simp [useFL, useRB, h1, h2]
theorem useF_no1 {l : List Int} {room key : Int} (h1 : vks l room = false) : useFL l room key = [] ∧ useRB l room key = false := by simp [useFL, useRB, h1]
theorem useF_no2 {l : List Int} {room key : Int} (h2 : inR 0 31 key = false) : useFL l room key = [] ∧ useRB l room key = false := by simp [useFL, useRB, h2]

/-- A list that may be the caller's own, and whether the key was there. -/
def GivesS (w : World) (l : List Int) (b : Bool) (e : Ending) (w' : World) : Prop := ∃ A n c, e = .returned (.tuple #[.slice A n c, .bool b]) ∧ SI w' w'.heap.size A n c l ∧ Below w.heap.size w w'

set_option maxHeartbeats 1000000 in
theorem first_c (A : Option Addr) (n c : Nat) (l : List Int) (room : Nat) (key : Int) (w : World) (h : SI w w.heap.size A n c l) (hr1 : 1 ≤ room) (hr2 : room ≤ 8) (hlr : n ≤ room) :
    Calls Try.prog 54 #[.slice A n c, .int .i64 (room : Int), .int .i64 key] w (GivesS w (firL l room key) (hasL l key)) := by
  have hc := h.le
  have hm := h.max
  have hlen := Lib.hid h.len
  rcases Bool.eq_false_or_eq_true (hasL l key) with hh | hh
  · rw [firL_hit (of_decide_eq_true hh), hh]
    go_enter Try.func54, Try.ntmps54
    go_wp2_with (go_at_call 70; refine (isIn_c _ _ _ l key _ _ h).mono ?_; rintro e w' ⟨rfl, rfl⟩)
    go_ret2
    exact ⟨_, _, _, rfl, h, Below.refl _ _⟩
  · rw [firL_miss (of_decide_eq_false hh), hh, ← hlen.out]
    go_enter Try.func54, Try.ntmps54
    have hO0 := OI.lit w w.heap.size [] 0 rfl (Nat.le_refl _) (by simp) #[] rfl
    by_cases hroom : n < room
    · have hd : n + 1 - room = 0 := by omega
      rw [hd, List.drop_zero]
      clear hd
      have d1 : (if (0 : Int) < (n : Int) + 1 - (room : Int) then (n : Int) + 1 - (room : Int) else 0) = 0 := if_neg (by omega)
      go_wp2_with (first | (go_at_call 70; refine (isIn_c _ _ _ l key _ _ h).mono ?_; rintro e w' ⟨rfl, rfl⟩) | (at_builtin; refine wpList_app rfl _ _ _ rfl Try.underlying23 rfl rfl hO0 (h.alloc (Nat.le_refl _) _) (by omega) (by simp) ?_; intro A2 c2 w2 hO2 hg2 hat2; rw [Nat.zero_add, List.nil_append] at hO2; have hb2 : Below w.heap.size w w2 := (((Below.refl _ _).alloc (Nat.le_refl _) _).grown hg2 (by simp) (by simp [blk])); have z2 := hb2.size) | (at_builtin; refine wpList_app rfl _ _ _ rfl Try.underlying23 rfl rfl (hO2.alloc _) (SI.one _ _) (by omega) (by simp; omega) ?_; intro A3 c3 w3 hO3 hg3 hat3; have hc3 := hO3.le; have hm3 := hO3.si.max))
      go_ret2
      exact ⟨_, _, _, rfl, hO3.si, (hb2.alloc z2 _).grown hg3 (by simp; omega) fun q hq => (hO2.lt q hq).1⟩
    · obtain rfl : n = room := by omega
      have hd : n + 1 - n = 1 := by omega
      rw [hd]
      clear hd
      have d1 : (if (0 : Int) < (n : Int) + 1 - (n : Int) then (n : Int) + 1 - (n : Int) else 0) = 1 := by rw [if_pos (by omega)]; omega
      have d2 : (n : Int) + 1 - (n : Int) = 1 := by omega
      go_wp2_with (first | (go_at_call 70; refine (isIn_c _ _ _ l key _ _ h).mono ?_; rintro e w' ⟨rfl, rfl⟩) | (at_builtin; refine wpList_app rfl _ _ _ rfl Try.underlying23 rfl rfl hO0 (h.alloc (Nat.le_refl _) _) (by omega) (by simp) ?_; intro A2 c2 w2 hO2 hg2 hat2; rw [Nat.zero_add, List.nil_append] at hO2; have hb2 : Below w.heap.size w w2 := (((Below.refl _ _).alloc (Nat.le_refl _) _).grown hg2 (by simp) (by simp [blk])); have z2 := hb2.size) | (at_builtin; refine wpList_app rfl _ _ _ rfl Try.underlying23 rfl rfl (hO2.alloc _) (SI.one _ _) (by omega) (by simp; omega) ?_; intro A3 c3 w3 hO3 hg3 hat3; have hc3 := hO3.le; have hm3 := hO3.si.max; obtain ⟨g3, o3, rfl, hg3B, -, -⟩ := hO3.at_ (k := 0) (by omega); have hne3 : c3 ≠ 1 := by omega))
      go_ret2
      have hcut := hO3.si.cut (i := 1) (j := n + 1) (A' := some ⟨g3, o3 + 1, none⟩) (by omega) (Nat.le_refl _) (fun e => by omega) (fun _ => by simp [Addr.add])
      rw [Nat.add_sub_cancel, List.take_of_length_le (by have := hlen.out; simp; omega)] at hcut
      exact ⟨_, _, _, rfl, hcut, (hb2.alloc z2 _).grown hg3 (by simp; omega) fun q hq => (hO2.lt q hq).1⟩

set_option maxHeartbeats 1000000 in
theorem specUseFirst_c (A : Option Addr) (n c : Nat) (l : List Int) (room key : Int) (w : World) (h : SI w w.heap.size A n c l) :
    Calls Try.prog 22 #[.slice A n c, .int .i64 room, .int .i64 key] w (GivesB w (useFL l room key) (useRB l room key)) := by
  rcases Bool.eq_false_or_eq_true (vks l room) with hv | hv
  · rcases Bool.eq_false_or_eq_true (inR 0 31 key) with hk | hk
    · obtain ⟨e1, e2⟩ := useF_yes hv hk
      rw [e1, e2]
      clear e1 e2
      obtain ⟨⟨r1, r2⟩, r3, r4, r5⟩ := vks_iff.1 hv
      obtain ⟨rm, rfl⟩ := Int.eq_ofNat_of_zero_le (show 0 ≤ room by omega)
      rw [Int.toNat_natCast]
      have hn8 : n ≤ rm := by rw [h.len]; omega
      have hrl := firL_len (l := l) (room := rm) (key := key) (by omega)
      go_enter Try.func22, Try.ntmps22
      go_wp2_with (first | (go_at_call 51; refine (validKeys_c _ _ _ l _ _ _ h).mono ?_; rintro e w' ⟨rfl, rfl⟩) | (go_at_call 52; refine (inRange_c _ _ _ _).mono ?_; rintro e w' ⟨rfl, rfl⟩) | (go_at_call 54; refine (first_c _ _ _ l rm key _ h (by omega) (by omega) hn8).mono ?_; rintro e w1 ⟨A1, n1, c1, rfl, hO1, hb1⟩; have hn1 : n1 ≤ 8 := by rw [hO1.len]; omega) | (at_builtin; refine wpList_app rfl _ _ _ rfl Try.underlying23 rfl rfl (OI.lit w1 w.heap.size [] 0 rfl hb1.size (by simp) _ rfl) (hO1.alloc (Nat.le_refl _) _) (by omega) (by have := hb1.size; simp; omega) ?_; intro A2 c2 w2 hO2 hg2 hat2; rw [Nat.zero_add, List.nil_append] at hO2))
      go_ret2
      exact ⟨_, _, _, rfl, hO2, ((hb1.alloc hb1.size _)).grown hg2 (by have := hb1.size; simp; omega) (by have := hb1.size; simp [blk]; omega)⟩
    · obtain ⟨e1, e2⟩ := useF_no2 (l := l) (room := room) hk
      rw [e1, e2]
      clear e1 e2
      go_enter Try.func22, Try.ntmps22
      go_wp2_with (first | (go_at_call 51; refine (validKeys_c _ _ _ l _ _ _ h).mono ?_; rintro e w' ⟨rfl, rfl⟩) | (go_at_call 52; refine (inRange_c _ _ _ _).mono ?_; rintro e w' ⟨rfl, rfl⟩))
      go_ret2
      exact ⟨_, _, _, rfl, OI.nil_ _ _, Below.refl _ _⟩
  · obtain ⟨e1, e2⟩ := useF_no1 (key := key) hv
    rw [e1, e2]
    clear e1 e2
    go_enter Try.func22, Try.ntmps22
    go_wp2_with (go_at_call 51; refine (validKeys_c _ _ _ l _ _ _ h).mono ?_; rintro e w' ⟨rfl, rfl⟩)
    go_ret2
    exact ⟨_, _, _, rfl, OI.nil_ _ _, Below.refl _ _⟩

set_option maxRecDepth 100000 in
set_option maxHeartbeats 1000000 in
theorem implUseFirst_c (A : Option Addr) (n c : Nat) (l : List Int) (room key : Int) (w : World) (h : SI w w.heap.size A n c l) :
    Calls Try.prog 21 #[.slice A n c, .int .i64 room, .int .i64 key] w (GivesB w (useFL l room key) (useRB l room key)) := by
  have hc := h.le
  have hm := h.max
  rcases Bool.eq_false_or_eq_true (vks l room) with hv | hv
  · rcases Bool.eq_false_or_eq_true (inR 0 31 key) with hk | hk
    · obtain ⟨e1, e2⟩ := useF_yes hv hk
      rw [e1, e2]
      clear e1 e2
      obtain ⟨⟨r1, r2⟩, r3, r4, r5⟩ := vks_iff.1 hv
      obtain ⟨rm, rfl⟩ := Int.eq_ofNat_of_zero_le (show 0 ≤ room by omega)
      rw [Int.toNat_natCast]
      have hlen := Lib.hid h.len
      have hn8 : n ≤ rm := by rw [h.len]; omega
      clear r3
      have hO0 := OI.lit w w.heap.size [] 0 rfl (Nat.le_refl _) (by simp) #[] rfl
      rcases Bool.eq_false_or_eq_true (hasL l key) with hh | hh
      · rw [firL_hit (of_decide_eq_true hh), hh]
        go_enter Try.func21, Try.ntmps21
        go_wp2_with (first | (go_at_call 44; refine (implValidKeys_c _ _ _ l _ _ _ h).mono ?_; rintro e w' ⟨rfl, rfl⟩) | (go_at_call 49; refine (validKey_c _ _).mono ?_; rintro e w' ⟨rfl, rfl⟩) | (at_builtin; refine wpList_app rfl _ _ _ rfl Try.underlying23 rfl rfl hO0 (h.alloc (Nat.le_refl _) _) (by omega) (by simp) ?_; intro A2 c2 w2 hO2 hg2 hat2; rw [Nat.zero_add, List.nil_append] at hO2; have hb2 : Below w.heap.size w w2 := (((Below.refl _ _).alloc (Nat.le_refl _) _).grown hg2 (by simp) (by simp [blk])); have z2 := hb2.size; have h2 := h.below hb2) | (go_at_call 50; refine (contains_c _ _ _ l key _ _ h2).mono ?_; rintro e w' ⟨rfl, rfl⟩))
        go_ret2
        exact ⟨_, _, _, rfl, hO2, hb2⟩
      · rw [firL_miss (of_decide_eq_false hh), hh, ← hlen.out]
        go_enter Try.func21, Try.ntmps21
        by_cases hroom : n < rm
        · have hd : n + 1 - rm = 0 := by omega
          rw [hd, List.drop_zero]
          clear hd
          have d1 : (if (n : Int) + 1 - (rm : Int) < 0 then 0 else (n : Int) + 1 - (rm : Int)) = 0 := by split <;> omega
          go_wp2_with (first | (go_at_call 44; refine (implValidKeys_c _ _ _ l _ _ _ h).mono ?_; rintro e w' ⟨rfl, rfl⟩) | (go_at_call 49; refine (validKey_c _ _).mono ?_; rintro e w' ⟨rfl, rfl⟩) | (at_builtin; refine wpList_app rfl _ _ _ rfl Try.underlying23 rfl rfl hO0 (h.alloc (Nat.le_refl _) _) (by omega) (by simp) ?_; intro A2 c2 w2 hO2 hg2 hat2; rw [Nat.zero_add, List.nil_append] at hO2; have hb2 : Below w.heap.size w w2 := (((Below.refl _ _).alloc (Nat.le_refl _) _).grown hg2 (by simp) (by simp [blk])); have z2 := hb2.size; have h2 := h.below hb2) | (go_at_call 50; refine (contains_c _ _ _ l key _ _ h2).mono ?_; rintro e w' ⟨rfl, rfl⟩) | (at_builtin; refine wpList_app rfl _ _ _ rfl Try.underlying23 rfl rfl (hO2.alloc _) (SI.one _ _) (by omega) (by simp; omega) ?_; intro A3 c3 w3 hO3 hg3 hat3; have hc3 := hO3.le; have hm3 := hO3.si.max))
          go_ret2
          exact ⟨_, _, _, rfl, hO3, (hb2.alloc z2 _).grown hg3 (by simp; omega) fun q hq => (hO2.lt q hq).1⟩
        · obtain rfl : n = rm := by omega
          have hd : n + 1 - n = 1 := by omega
          rw [hd]
          clear hd
          have d2 : (n : Int) + 1 - (n : Int) = 1 := by omega
          go_wp2_with (first | (go_at_call 44; refine (implValidKeys_c _ _ _ l _ _ _ h).mono ?_; rintro e w' ⟨rfl, rfl⟩) | (go_at_call 49; refine (validKey_c _ _).mono ?_; rintro e w' ⟨rfl, rfl⟩) | (at_builtin; refine wpList_app rfl _ _ _ rfl Try.underlying23 rfl rfl hO0 (h.alloc (Nat.le_refl _) _) (by omega) (by simp) ?_; intro A2 c2 w2 hO2 hg2 hat2; rw [Nat.zero_add, List.nil_append] at hO2; have hb2 : Below w.heap.size w w2 := (((Below.refl _ _).alloc (Nat.le_refl _) _).grown hg2 (by simp) (by simp [blk])); have z2 := hb2.size; have h2 := h.below hb2) | (go_at_call 50; refine (contains_c _ _ _ l key _ _ h2).mono ?_; rintro e w' ⟨rfl, rfl⟩) | (at_builtin; refine wpList_app rfl _ _ _ rfl Try.underlying23 rfl rfl (hO2.alloc _) (SI.one _ _) (by omega) (by simp; omega) ?_; intro A3 c3 w3 hO3 hg3 hat3; have hc3 := hO3.le; have hm3 := hO3.si.max; obtain ⟨g3, o3, rfl, hg3B, -, -⟩ := hO3.at_ (k := 0) (by omega); have hne3 : c3 ≠ 1 := by omega))
          go_ret2
          have hcut := hO3.cut (i := 1) (j := n + 1) (A' := some ⟨g3, o3 + 1, none⟩) (by omega) (Nat.le_refl _) (fun e => by omega) (fun _ => by simp [Addr.add])
          rw [Nat.add_sub_cancel, List.take_of_length_le (by have := hlen.out; simp; omega)] at hcut
          exact ⟨_, _, _, rfl, hcut, (hb2.alloc z2 _).grown hg3 (by simp; omega) fun q hq => (hO2.lt q hq).1⟩
    · obtain ⟨e1, e2⟩ := useF_no2 (l := l) (room := room) hk
      rw [e1, e2]
      clear e1 e2
      go_enter Try.func21, Try.ntmps21
      go_wp2_with (first | (go_at_call 44; refine (implValidKeys_c _ _ _ l _ _ _ h).mono ?_; rintro e w' ⟨rfl, rfl⟩) | (go_at_call 49; refine (validKey_c _ _).mono ?_; rintro e w' ⟨rfl, rfl⟩))
      go_ret2
      exact ⟨_, _, _, rfl, OI.nil_ _ _, Below.refl _ _⟩
  · obtain ⟨e1, e2⟩ := useF_no1 (key := key) hv
    rw [e1, e2]
    clear e1 e2
    go_enter Try.func21, Try.ntmps21
    go_wp2_with (go_at_call 44; refine (implValidKeys_c _ _ _ l _ _ _ h).mono ?_; rintro e w' ⟨rfl, rfl⟩)
    go_ret2
    exact ⟨_, _, _, rfl, OI.nil_ _ _, Below.refl _ _⟩

end Go.Proofs.Ytgnkidmljcpheac
