/- Contracts of UseRecent, the program's and the model's. No statement is proved here. -/
import Derived.Test.YtgnkidmljcpheacRc
namespace Go.Proofs.Ytgnkidmljcpheac
open Go.RowKit

/-- The keys that differ from x. -/
def nk (x y : Int) : Bool := !decide (y = x)
theorem nk_true {x y : Int} : nk x y = true ↔ y ≠ x := by simp [nk]
/-- The keys of a recent cache behind a use. -/
def recL (l : List Int) (room : Nat) (key : Int) : List Int := (key :: l.filter (nk key)).take room
theorem split_plc {l : List Int} {x : Int} (h : x ∈ l) : l = l.take (plc l x) ++ x :: l.drop (plc l x + 1) := by
  have hl := plc_lt h
  have e := drop_gi hl
  rw [gi_plc h] at e
  rw [← e, List.take_append_drop]
theorem filter_hit {l : List Int} {x : Int} (hn : l.Nodup) (h : x ∈ l) : l.take (plc l x) ++ l.drop (plc l x + 1) = l.filter (nk x) := by
  have e := split_plc h
  have hn' : (l.take (plc l x) ++ x :: l.drop (plc l x + 1)).Nodup := by rw [← e]; exact hn
  rw [List.nodup_append, List.nodup_cons] at hn'
  obtain ⟨_, ⟨h2, _⟩, h4⟩ := hn'
  conv => rhs; rw [e]
  rw [List.filter_append, List.filter_cons, if_neg (by simp [nk])]
  congr 1
  · refine (List.filter_eq_self.2 fun y hy => nk_true.2 fun e => ?_).symm
    exact h4 y hy x (List.mem_cons_self) e
  · refine (List.filter_eq_self.2 fun y hy => nk_true.2 fun e => ?_).symm
    subst e; exact h2 hy
theorem filter_miss {l : List Int} {x : Int} (h : x ∉ l) : l.filter (nk x) = l :=
  List.filter_eq_self.2 fun _ hy => nk_true.2 fun e => h (e ▸ hy)
theorem filter_len {l : List Int} {x : Int} (hn : l.Nodup) (h : x ∈ l) : (l.filter (nk x)).length + 1 = l.length := by
  rw [← filter_hit hn h]; have := plc_lt h; simp; omega
theorem recL_hit {l : List Int} {room : Nat} {x : Int} (hn : l.Nodup) (h : x ∈ l) (hr : l.length ≤ room) : recL l room x = x :: l.filter (nk x) := by
  unfold recL; rw [List.take_of_length_le]; have := filter_len hn h; simp only [List.length_cons]; omega
theorem recL_miss {l : List Int} {room : Nat} {x : Int} (h : x ∉ l) : recL l room x = (x :: l).take room := by
  unfold recL; rw [filter_miss h]
theorem recL_len (l : List Int) (room : Nat) (x : Int) : (recL l room x).length ≤ room := by unfold recL; simp; omega
theorem recL_nodup {l : List Int} (room : Nat) (x : Int) (hn : l.Nodup) : (recL l room x).Nodup := by
  unfold recL
  refine List.Nodup.sublist (List.take_sublist _ _) ?_
  rw [List.nodup_cons]
  exact ⟨fun h => by simp [nk] at h, List.Nodup.sublist List.filter_sublist hn⟩
theorem recL_all {l : List Int} {room : Nat} {x : Int} (ha : allR 0 31 l = true) (hx : inR 0 31 x = true) : allR 0 31 (recL l room x) = true := by
  refine allR_of fun y hy => ?_
  have hy' := List.mem_of_mem_take hy
  rcases List.mem_cons.1 hy' with rfl | hy'
  · exact inR_true.1 hx
  · exact allR_mem ha (List.mem_filter.1 hy').1

/-- A list in new memory and a bool. -/
def GivesB (w : World) (l : List Int) (b : Bool) (e : Ending) (w' : World) : Prop := ∃ A n c, e = .returned (.tuple #[.slice A n c, .bool b]) ∧ OI w' w.heap.size A n c l ∧ Below w.heap.size w w'

set_option maxHeartbeats 1000000 in
theorem without_c (A : Option Addr) (n c : Nat) (l : List Int) (k : Nat) (w : World) (h : SI w w.heap.size A n c l) (hk : k < n) (hn : n ≤ 1000000) :
    Calls Try.prog 69 #[.slice A n c, .int .i64 (k : Int)] w (Gives w (l.take k ++ l.drop (k + 1))) := by
  have hc := h.le
  have hm := h.max
  have hlen := Lib.hid h.len
  obtain ⟨b, o, rfl, hbB, -⟩ := h.at_ hk
  have hcut1 := h.cut (i := 0) (j := k) (A' := some ⟨b, o, none⟩) (Nat.zero_le _) (by omega) (fun _ => rfl) (fun _ => by simp [Addr.add])
  simp only [Nat.sub_zero, List.drop_zero] at hcut1
  have hw : IntKind.i64.wrap ((k : Int) + 1) = (k : Int) + 1 := IntWalk.i64_in _ ⟨by omega, by omega⟩
  have hdrop : (l.drop (k + 1)).take (n - (k + 1)) = l.drop (k + 1) := List.take_of_length_le (by rw [List.length_drop, ← hlen.out]; exact Nat.le_refl _)
  by_cases e : c = k + 1
  · have hcut2 := h.cut (i := k + 1) (j := n) (A' := some ⟨b, o, none⟩) (by omega) (Nat.le_refl _) (fun _ => rfl) (fun h => absurd e h)
    rw [hdrop] at hcut2
    generalize l.take k = t at hcut1 ⊢
    generalize l.drop (k + 1) = d at hcut2 ⊢
    clear hdrop
    subst e
    obtain rfl : n = k + 1 := by omega
    rw [Nat.sub_self] at hcut2
    have b0 : (0 : Int) ≤ (k : Int) := by omega
    have b1 : (k : Int) ≤ (k : Int) + 1 := by omega
    have b2 : (0 : Int) ≤ (k : Int) + 1 := by omega
    go_enter Try.func69, Try.ntmps69
    go_wp2
    go_region_law (first | (refine step_app rfl (.tmp 5) (.tmp 8) _ rfl Try.underlying23 rfl rfl (OI.lit _ w.heap.size [] 0 rfl (Nat.le_refl _) (by simp) _ rfl) (hcut1.alloc (Nat.le_refl _) _) (by omega) (by simp) ?_; intro A1 c1 w1 hO1 hg1 hat1; rw [Nat.zero_add, List.nil_append] at hO1) | (refine step_app rfl (.tmp 9) (.tmp 13) _ rfl Try.underlying23 rfl rfl hO1 ((hcut2.alloc (Nat.le_refl _) _).drew.grown hg1 (by simp) (by simp [blk])) (by omega) (by have := hg1.size; simp at this; omega) ?_; intro A2 c2 w2 hO2 hg2 hat2))
    go_wp2
    go_ret
    have z1 := hg1.size
    simp at z1
    exact ⟨_, _, _, rfl, by rw [Nat.add_zero] at hO2; exact hO2, (((Below.refl _ _).alloc (Nat.le_refl _) _).drew.grown hg1 (by simp) (by simp [blk])).grown hg2 (by omega) fun q hq => (hO1.lt q hq).1⟩
  · have hcut2 := h.cut (i := k + 1) (j := n) (A' := some ⟨b, o + (k + 1), none⟩) (by omega) (Nat.le_refl _) (fun h => absurd h e) (fun _ => by simp [Addr.add])
    rw [hdrop] at hcut2
    generalize l.take k = t at hcut1 ⊢
    generalize l.drop (k + 1) = d at hcut2 ⊢
    clear hdrop
    have b0 : (0 : Int) ≤ (k : Int) := by omega
    have b1 : (k : Int) ≤ (c : Int) := by omega
    have b2 : (0 : Int) ≤ (k : Int) + 1 := by omega
    have b3 : (k : Int) + 1 ≤ (n : Int) := by omega
    go_enter Try.func69, Try.ntmps69
    go_wp2
    go_region_law (first | (refine step_app rfl (.tmp 5) (.tmp 8) _ rfl Try.underlying23 rfl rfl (OI.lit _ w.heap.size [] 0 rfl (Nat.le_refl _) (by simp) _ rfl) (hcut1.alloc (Nat.le_refl _) _) (by omega) (by simp) ?_; intro A1 c1 w1 hO1 hg1 hat1; rw [Nat.zero_add, List.nil_append] at hO1) | (refine step_app rfl (.tmp 9) (.tmp 13) _ rfl Try.underlying23 rfl rfl hO1 ((hcut2.alloc (Nat.le_refl _) _).drew.grown hg1 (by simp) (by simp [blk])) (by omega) (by have := hg1.size; simp at this; omega) ?_; intro A2 c2 w2 hO2 hg2 hat2))
    go_wp2
    go_ret
    have z1 := hg1.size
    simp at z1
    exact ⟨_, _, _, rfl, hO2, (((Below.refl _ _).alloc (Nat.le_refl _) _).drew.grown hg1 (by simp) (by simp [blk])).grown hg2 (by omega) fun q hq => (hO1.lt q hq).1⟩

set_option maxHeartbeats 1000000 in
theorem recent_c (A : Option Addr) (n c : Nat) (l : List Int) (room : Nat) (key : Int) (w : World) (h : SI w w.heap.size A n c l) (hd : l.Nodup) (hr1 : 1 ≤ room) (hr2 : room ≤ 8) (hlr : n ≤ room) :
    Calls Try.prog 53 #[.slice A n c, .int .i64 (room : Int), .int .i64 key] w (GivesB w (recL l room key) (hasL l key)) := by
  have hc := h.le
  have hm := h.max
  have hlen := Lib.hid h.len
  by_cases hin : key ∈ l
  · have hpl : placeL l key = (plc l key : Int) := by rw [placeL, if_pos hin]
    have hlt := plc_lt hin
    rw [← hlen.out] at hlt
    have hres : recL l room key = key :: (l.take (plc l key) ++ l.drop (plc l key + 1)) := by rw [filter_hit hd hin, recL_hit hd hin (by rw [← hlen.out]; exact hlr)]
    have hhas : hasL l key = true := decide_eq_true hin
    have HP := Lib.hid hpl
    clear hpl
    rw [hhas, hres]
    clear hres hhas
    go_enter Try.func53, Try.ntmps53
    go_wp2_with fail
    refine (placeOf_c _ _ _ l _ _ _ h).mono ?_
    rintro e w' ⟨rfl, rfl⟩
    rw [HP.out]
    go_wp2_with fail
    refine (without_c _ _ _ l (plc l key) _ ((h.alloc (Nat.le_refl _) _).more (by simp)) hlt (by omega)).mono ?_
    rintro e w1 ⟨A1, n1, c1, rfl, hO1, hb1⟩
    have z1 := hb1.size
    simp at z1
    have hO0 := (OI.lit w w.heap.size [key] 1 rfl (Nat.le_refl _) (by simp) #[.int .i64 key] rfl).below hb1
    have hn1 : n1 ≤ 16 := by have := hlen.out; rw [hO1.len]; simp; omega
    go_wp2_with (at_builtin; refine wpList_app rfl _ _ _ rfl Try.underlying23 rfl rfl hO0 hO1.si (by omega) (by omega) ?_; intro A2 c2 w2 hO2 hg2 hat2)
    go_ret2
    refine ⟨_, _, _, rfl, hO2, (((Below.refl _ _).alloc (Nat.le_refl _) _).trans (hb1.mono (by simp))).grown hg2 (by omega) (by simp [blk])⟩
  · have hpl : placeL l key = -1 := by rw [placeL, if_neg hin]
    have hres : recL l room key = (key :: l).take room := recL_miss hin
    have hhas : hasL l key = false := decide_eq_false hin
    rw [hhas, hres]
    clear hres hhas
    go_enter Try.func53, Try.ntmps53
    go_wp2_with fail
    refine (placeOf_c _ _ _ l _ _ _ h).mono ?_
    rintro e w' ⟨rfl, rfl⟩
    by_cases hroom : n + 1 < room
    · go_wp2_with (at_builtin; refine wpList_app rfl _ _ _ rfl Try.underlying23 rfl rfl (OI.lit w w.heap.size [key] 1 rfl (Nat.le_refl _) (by simp) #[.int .i64 key] rfl) (h.alloc (Nat.le_refl _) _) (by omega) (by simp) ?_; intro A2 c2 w2 hO2 hg2 hat2; have hc2 := hO2.le; have hm2 := hO2.si.max)
      go_ret2
      exact ⟨_, _, _, rfl, by rw [List.take_of_length_le (by have := hlen.out; simp; omega)]; exact hO2, ((Below.refl _ _).alloc (Nat.le_refl _) _).grown hg2 (by simp) (by simp [blk])⟩
    · go_wp2_with (at_builtin; refine wpList_app rfl _ _ _ rfl Try.underlying23 rfl rfl (OI.lit w w.heap.size [key] 1 rfl (Nat.le_refl _) (by simp) #[.int .i64 key] rfl) (h.alloc (Nat.le_refl _) _) (by omega) (by simp) ?_; intro A2 c2 w2 hO2 hg2 hat2; have hc2 := hO2.le; have hm2 := hO2.si.max)
      go_ret2
      have hcut := hO2.cut (i := 0) (j := room) (A' := A2) (Nat.zero_le _) (by omega) (fun _ => rfl) (fun _ => by simp [Addr.add])
      simp only [Nat.sub_zero, List.drop_zero] at hcut
      exact ⟨_, _, _, rfl, hcut, ((Below.refl _ _).alloc (Nat.le_refl _) _).grown hg2 (by simp) (by simp [blk])⟩

theorem vks_distL {l : List Int} {room : Int} (h : vks l room = true) : l.Nodup := of_decide_eq_true (vks_iff.1 h).2.2.2
/-- What UseRecent answers. -/
def useRL (l : List Int) (room key : Int) : List Int := if vks l room && inR 0 31 key then recL l room.toNat key else []
def useRB (l : List Int) (room key : Int) : Bool := if vks l room && inR 0 31 key then hasL l key else false
theorem useR_yes {l : List Int} {room key : Int} (h1 : vks l room = true) (h2 : inR 0 31 key = true) : useRL l room key = recL l room.toNat key ∧ useRB l room key = hasL l key := by
  simp [useRL, useRB, h1, h2]
theorem useR_no1 {l : List Int} {room key : Int} (h1 : vks l room = false) : useRL l room key = [] ∧ useRB l room key = false := by simp [useRL, useRB, h1]
theorem useR_no2 {l : List Int} {room key : Int} (h2 : inR 0 31 key = false) : useRL l room key = [] ∧ useRB l room key = false := by simp [useRL, useRB, h2]

set_option maxHeartbeats 1000000 in
theorem specUseRecent_c (A : Option Addr) (n c : Nat) (l : List Int) (room key : Int) (w : World) (h : SI w w.heap.size A n c l) :
    Calls Try.prog 17 #[.slice A n c, .int .i64 room, .int .i64 key] w (GivesB w (useRL l room key) (useRB l room key)) := by
  rcases Bool.eq_false_or_eq_true (vks l room) with hv | hv
  · rcases Bool.eq_false_or_eq_true (inR 0 31 key) with hk | hk
    · obtain ⟨e1, e2⟩ := useR_yes hv hk
      rw [e1, e2]
      clear e1 e2
      obtain ⟨⟨r1, r2⟩, r3, r4, r5⟩ := vks_iff.1 hv
      obtain ⟨rm, rfl⟩ := Int.eq_ofNat_of_zero_le (show 0 ≤ room by omega)
      rw [Int.toNat_natCast]
      have hn8 : n ≤ rm := by rw [h.len]; omega
      have hrl := recL_len l rm key
      go_enter Try.func17, Try.ntmps17
      go_wp2_with (first | (go_at_call 51; refine (validKeys_c _ _ _ l _ _ _ h).mono ?_; rintro e w' ⟨rfl, rfl⟩) | (go_at_call 52; refine (inRange_c _ _ _ _).mono ?_; rintro e w' ⟨rfl, rfl⟩) | (go_at_call 53; refine (recent_c _ _ _ l rm key _ h (vks_distL hv) (by omega) (by omega) hn8).mono ?_; rintro e w1 ⟨A1, n1, c1, rfl, hO1, hb1⟩; have hn1 : n1 ≤ 8 := by rw [hO1.len]; omega) | (at_builtin; refine wpList_app rfl _ _ _ rfl Try.underlying23 rfl rfl (OI.lit w1 w.heap.size [] 0 rfl hb1.size (by simp) _ rfl) (hO1.alloc _).si (by omega) (by have := hb1.size; simp; omega) ?_; intro A2 c2 w2 hO2 hg2 hat2; rw [Nat.zero_add, List.nil_append] at hO2))
      go_ret2
      exact ⟨_, _, _, rfl, hO2, ((hb1.alloc hb1.size _)).grown hg2 (by have := hb1.size; simp; omega) (by have := hb1.size; simp [blk]; omega)⟩
    · obtain ⟨e1, e2⟩ := useR_no2 (l := l) (room := room) hk
      rw [e1, e2]
      clear e1 e2
      go_enter Try.func17, Try.ntmps17
      go_wp2_with (first | (go_at_call 51; refine (validKeys_c _ _ _ l _ _ _ h).mono ?_; rintro e w' ⟨rfl, rfl⟩) | (go_at_call 52; refine (inRange_c _ _ _ _).mono ?_; rintro e w' ⟨rfl, rfl⟩))
      go_ret2
      exact ⟨_, _, _, rfl, OI.nil_ _ _, Below.refl _ _⟩
  · obtain ⟨e1, e2⟩ := useR_no1 (key := key) hv
    rw [e1, e2]
    clear e1 e2
    go_enter Try.func17, Try.ntmps17
    go_wp2_with (go_at_call 51; refine (validKeys_c _ _ _ l _ _ _ h).mono ?_; rintro e w' ⟨rfl, rfl⟩)
    go_ret2
    exact ⟨_, _, _, rfl, OI.nil_ _ _, Below.refl _ _⟩

theorem filter_snoc {l : List Int} {x : Int} {k : Nat} (h : k < l.length) : (l.take (k + 1)).filter (nk x) = (l.take k).filter (nk x) ++ (if gi l k = x then [] else [gi l k]) := by
  rw [take_succ_gi h, List.filter_append]
  congr 1
  by_cases e : gi l k = x
  · rw [if_pos e]; simp [nk, e]
  · rw [if_neg e]; simp [nk, e]
set_option maxRecDepth 100000 in
set_option maxHeartbeats 1000000 in
theorem implUseRecent_c (A : Option Addr) (n c : Nat) (l : List Int) (room key : Int) (w : World) (h : SI w w.heap.size A n c l) :
    Calls Try.prog 16 #[.slice A n c, .int .i64 room, .int .i64 key] w (GivesB w (useRL l room key) (useRB l room key)) := by
  have hc := h.le
  have hm := h.max
  rcases Bool.eq_false_or_eq_true (vks l room) with hv | hv
  · rcases Bool.eq_false_or_eq_true (inR 0 31 key) with hk | hk
    · obtain ⟨e1, e2⟩ := useR_yes hv hk
      rw [e1, e2]
      clear e1 e2
      obtain ⟨⟨r1, r2⟩, r3, r4, r5⟩ := vks_iff.1 hv
      obtain ⟨rm, rfl⟩ := Int.eq_ofNat_of_zero_le (show 0 ≤ room by omega)
      rw [Int.toNat_natCast]
      have hlen := Lib.hid h.len
      have hn8 : n ≤ rm := by rw [h.len]; omega
      clear r3
      go_enter Try.func16, Try.ntmps16
      go_wp2_with (first | (go_at_call 44; refine (implValidKeys_c _ _ _ l _ _ _ h).mono ?_; rintro e w' ⟨rfl, rfl⟩) | (go_at_call 49; refine (validKey_c _ _).mono ?_; rintro e w' ⟨rfl, rfl⟩))
      have hO0 := OI.lit w w.heap.size [key] 1 rfl (Nat.le_refl _) (by simp) #[.int .i64 key] rfl
      have hb0 : Below w.heap.size w (w.alloc (.cells #[.int .i64 key] 3)) := (Below.refl _ _).alloc (Nat.le_refl _) _
      go_loopw [8, 24] (fun v i wr => ∃ (k : Nat) (A' : Option Addr) (m c' : Nat), k ≤ n ∧ m ≤ k + 1 ∧ i = .int .i64 k ∧ v = .slice A' m c' ∧ OI wr w.heap.size A' m c' (key :: (l.take k).filter (nk key)) ∧ Below w.heap.size w wr) (fun _ i _ => n - (intOf i).toNat)
      case atStart => exact ⟨0, _, 1, 1, Nat.zero_le _, by omega, rfl, rfl, by simpa using hO0, hb0⟩
      case round =>
        obtain ⟨k, A', m, c', hk2, hmk, rfl, rfl, hO, hb⟩ := hrel
        have hsz := hb.size
        by_cases hlt : k < n
        · obtain ⟨b, o, rfl, hbB, hcell⟩ := h.at_ hlt
          have HC : wr.cell? ⟨b, o + k, none⟩ = some (.int .i64 (gi l k)) := (hb.cell (p := ⟨b, o + k, none⟩) hbB).trans hcell
          have hfs := filter_snoc (x := key) (l := l) (k := k) (by rw [← hlen.out]; exact hlt)
          have HF := Lib.hid hfs
          clear hfs
          rcases Bool.eq_false_or_eq_true (gi l k != key) with hx | hx
          · go_wp2_with (at_builtin; refine wpList_app rfl _ _ _ rfl Try.underlying23 rfl rfl (hO.alloc _) (SI.one _ _) (by omega) (by simp; omega) ?_; intro A2 c2 w2 hO2 hg2 hat2)
            go_roundw
            case rel => exact ⟨k + 1, A2, m + 1, c2, by omega, by omega, by go_num, rfl, by rw [HF.out, if_neg (by simpa using hx)]; exact hO2, (hb.alloc hsz _).grown hg2 (by simp; omega) fun q hq => (hO.lt q hq).1⟩
            case measure => simp [intOf]; omega
          · go_wp2
            go_roundw
            case rel => exact ⟨k + 1, A', m, c', by omega, by omega, by go_num, rfl, by rw [HF.out, if_pos (by simpa using hx), List.append_nil]; exact hO, hb⟩
            case measure => simp [intOf]; omega
        · obtain rfl : k = n := by omega
          have hfull : l.take k = l := List.take_of_length_le (by rw [hlen.out]; exact Nat.le_refl _)
          rw [hfull] at hO
          have hc' := hO.le
          have hm' := hO.si.max
          have hmlen := Lib.hid hO.len
          have hrec : recL l rm key = (key :: l.filter (nk key)).take rm := rfl
          have HREC := Lib.hid hrec
          clear hfull hrec
          have b0 : (0 : Int) ≤ (m : Int) := by omega
          have b1 : (m : Int) ≤ (c' : Int) := by omega
          have b2 : (0 : Int) ≤ (rm : Int) := by omega
          by_cases hroom : m ≤ rm
          · have d1 : (if rm < m then (rm : Int) else (m : Int)) = (m : Int) := if_neg (by omega)
            go_wp2
            go_quiet ((go_at_call 50; exact Calls.quiet_of_same (contains_c _ _ _ l _ _ _ ((h.below hb).drewN _))))
            go_wp2
            go_ret2
            refine ⟨_, _, _, rfl, OI.drewN (w := wr) ?_ _, below_dR hb _⟩
            rw [HREC.out, List.take_of_length_le (by rw [← hmlen.out]; exact hroom)]; exact hO
          · have d1 : (if rm < m then (rm : Int) else (m : Int)) = (rm : Int) := if_pos (by omega)
            have b3 : (rm : Int) ≤ (c' : Int) := by omega
            have hcut := hO.cut (i := 0) (j := rm) (A' := A') (Nat.zero_le _) (by omega) (fun _ => rfl) (fun _ => by cases A' <;> simp [Addr.add])
            simp only [Nat.sub_zero, List.drop_zero] at hcut
            have HCUT := Lib.hid hcut
            clear hcut
            go_wp2
            go_quiet ((go_at_call 50; exact Calls.quiet_of_same (contains_c _ _ _ l _ _ _ ((h.below hb).drewN _))))
            go_wp2
            go_ret2
            exact ⟨_, _, _, rfl, OI.drewN (w := wr) (by rw [HREC.out]; exact HCUT.out) _, below_dR hb _⟩
    · obtain ⟨e1, e2⟩ := useR_no2 (l := l) (room := room) hk
      rw [e1, e2]
      clear e1 e2
      go_enter Try.func16, Try.ntmps16
      go_wp2_with (first | (go_at_call 44; refine (implValidKeys_c _ _ _ l _ _ _ h).mono ?_; rintro e w' ⟨rfl, rfl⟩) | (go_at_call 49; refine (validKey_c _ _).mono ?_; rintro e w' ⟨rfl, rfl⟩))
      go_ret2
      exact ⟨_, _, _, rfl, OI.nil_ _ _, Below.refl _ _⟩
  · obtain ⟨e1, e2⟩ := useR_no1 (key := key) hv
    rw [e1, e2]
    clear e1 e2
    go_enter Try.func16, Try.ntmps16
    go_wp2_with (go_at_call 44; refine (implValidKeys_c _ _ _ l _ _ _ h).mono ?_; rintro e w' ⟨rfl, rfl⟩)
    go_ret2
    exact ⟨_, _, _, rfl, OI.nil_ _ _, Below.refl _ _⟩
end Go.Proofs.Ytgnkidmljcpheac
