/- What strings.SplitSeq returns gives the words of a text, one after the other. No statement is proved here. -/
import Derived.Test.YtemhpncmhdcheabDoorEvZ
import Derived.Test.YtemhpncmhdcheabDoorChecked
import Derived.Test.YtemhpncmhdcheabDoorSh
import Derived.Shelf.Abstract
import Derived.WalkKit
import Derived.OwnWalkIn
import Derived.TacticsInMore
import Derived.LoopNIn
import Derived.LoopIn
import Derived.RangeFuncBound
namespace Go.Proofs
open Go.RowKit Go.Shelf Go.Ev

/-! ## Words -/
theorem indexByte_cases (c : UInt8) : ∀ l : List UInt8, (Lib.indexByte l c = -1 ∧ wordsB c l = [l]) ∨ ∃ u v, l = u ++ c :: v ∧ Lib.indexByte l c = (u.length : Int) ∧ wordsB c l = u :: wordsB c v
  | [] => .inl ⟨rfl, rfl⟩
  | x :: r => by
    rw [Lib.indexByte, wordsB]
    by_cases h : x = c
    · subst h
      rw [if_pos (by simp), if_pos rfl]
      exact .inr ⟨[], r, rfl, rfl, rfl⟩
    · rw [if_neg (by simpa using h), if_neg h]
      rcases indexByte_cases c r with ⟨e, hw⟩ | ⟨u, v, rfl, e, hw⟩
      · rw [if_pos (by simp [e]), hw]; exact .inl ⟨rfl, rfl⟩
      · rw [if_neg (by simp [e]), hw, e]
        exact .inr ⟨x :: u, v, rfl, by simp, rfl⟩
theorem drop_mid {α : Type} (c : α) (v : List α) : ∀ u : List α, (u ++ c :: v).drop (u.length + 1) = v
  | [] => rfl
  | _ :: u => drop_mid c v u
/-- Of a text that has the byte: the first word, the rest. -/
theorem words_cases (c : UInt8) (s : ByteArray) : (Lib.indexByte s.data.toList c = -1 ∧ words c s = [s]) ∨ ∃ i : Nat, i < s.size ∧ Lib.indexByte s.data.toList c = (i : Int) ∧ words c s = s.extract 0 i :: words c (s.extract (i + 1) s.size) := by
  rcases indexByte_cases c s.data.toList with ⟨e, hw⟩ | ⟨u, v, hs, e, hw⟩
  · exact .inl ⟨e, by rw [words, hw]; rfl⟩
  · have hz : s.size = u.length + (v.length + 1) := by
      have := congrArg List.length hs
      rw [Array.length_toList, List.length_append, List.length_cons] at this
      exact this
    refine .inr ⟨u.length, by omega, e, ?_⟩
    have e1 : (s.extract 0 u.length).data.toList = u := by
      rw [ByteArray.data_extract, Array.toList_extract, hs]
      show ((u ++ c :: v).drop 0).take (u.length - 0) = u
      rw [List.drop_zero, Nat.sub_zero, List.take_left' rfl]
    have e2 : (s.extract (u.length + 1) s.size).data.toList = v := by
      rw [ByteArray.data_extract, Array.toList_extract, hs]
      show ((u ++ c :: v).drop (u.length + 1)).take (s.size - (u.length + 1)) = v
      rw [drop_mid, List.take_of_length_le (by omega)]
    rw [words, words, hw, List.map_cons, e2]
    congr 1
    apply ByteArray.ext
    apply Array.ext'
    exact e1.symm

def szAt (b o : Nat) (w : World) : Nat := match w.cell? ⟨b, o, none⟩ with
  | some (.string s) => s.size
  | _ => 0
set_option maxRecDepth 100000 in
set_option maxHeartbeats 2000000 in
theorem Tryd.sq_in (n l b1 o1 b2 o2 b3 o3 : Nat) (c : UInt8) (s : ByteArray) (J : List ByteArray → ByteArray → World → Prop) (Jx : World → Prop)
    (hF : ∀ pre s1 A, J pre s1 A → A.cell? ⟨b1, o1, none⟩ = some (.string ⟨#[c]⟩) ∧ A.cell? ⟨b3, o3, none⟩ = some (.int .i64 0) ∧ ∃ cur ty, A.heap[b2]? = some (.cells cur ty (0, 0)) ∧ cur[o2]? = some (.string s1))
    (hS : ∀ pre s1 s2 A, J pre s1 A → J pre s2 (A.setCell ⟨b2, o2, none⟩ (.string s2)))
    (hY : ∀ pre x s1 A, J pre s1 A → pre ++ [x] <+: words c s → YieldAt Fence.wide (n - 1) Tryd.prog l #[.string x] A fun e A' => (e = .returned (.bool true) ∧ J (pre ++ [x]) s1 A') ∨ (e = .returned (.bool false) ∧ Jx A'))
    (hz : s.size ≤ 1000000000) (W : World) (h0 : J [] s W) :
    CallsIn Fence.wide n Tryd.prog 52 #[.func (.yield l) #[] #[], .pointer (some ⟨b1, o1, none⟩), .pointer (some ⟨b2, o2, none⟩), .pointer (some ⟨b3, o3, none⟩)] W fun e W' => (∃ v, e = .returned v) ∧ ((∃ s', J (words c s) s' W') ∨ Jx W') := by
  have hro : Fence.wide.round = none := rfl
  have hfn : Fence.wide.fn 52 := trivial
  refine callsIn_of_wp Tryd.func52 rfl hfn ?_ hro
  simp only [Tryd.ntmps52, List.size_toArray, List.length_cons, List.length_nil, Nat.reduceAdd, Nat.reduceSub, Array.replicate_succ, Array.replicate_zero, List.push_toArray, List.append_toArray, List.nil_append, List.cons_append]
  obtain ⟨hc1, hc3, cur, ty, hh, hcur⟩ := hF [] s W h0
  have hone : (⟨#[c]⟩ : ByteArray).size = 1 := rfl
  gi_wp2
  gi_loopw [7] (fun _ wr => ∃ pre s1, J pre s1 wr ∧ pre ++ words c s1 = words c s ∧ s1.size ≤ s.size) (fun _ wr => szAt b2 o2 wr)
  case atStart => exact ⟨[], s, h0, rfl, Nat.le_refl _⟩
  case round =>
    obtain ⟨pre, s1, hJ, hpre, hle⟩ := hrel
    obtain ⟨hc1, hc3, cur, ty, hh, hcur⟩ := hF pre s1 _ hJ
    have hc2 : wr.cell? ⟨b2, o2, none⟩ = some (.string s1) := (cell_of_heap hh).trans hcur
    have hf2 : wr.frozen? ⟨b2, o2, none⟩ = false := by simp [World.frozen?, hh]
    have hIx := callsIn_wide (n := n - 1) (P := Tryd.prog) |>.2 (Tryd.strings_Index_one s1 c wr)
    gi_wp2_with fail
    refine ⟨trivial, fun hd => (by cases hd), hIx.mono ?_⟩
    rintro e w' ⟨rfl, ew⟩
    subst w'
    rcases words_cases c s1 with ⟨hi, hw⟩ | ⟨i, hi1, hi, hw⟩
    · rw [hw] at hpre
      rw [hi]
      obtain ⟨fn, tmps, assign, body, hy, hRnd⟩ := hY pre s1 s1 _ hJ (by rw [hpre]; exact List.prefix_refl _)
      gi_wp2
      refine ⟨fun hd => (by cases hd), hRnd.mono ?_⟩
      rintro e W3 (⟨rfl, hJ3⟩ | ⟨rfl, hJx3⟩)
      · gi_wp2
        go_end0
        exact ⟨⟨_, rfl⟩, .inl ⟨s1, by rw [← hpre]; exact hJ3⟩⟩
      · gi_wp2
        go_end0
        exact ⟨⟨_, rfl⟩, .inr hJx3⟩
    · have hwi : wrap64 (i : Int) = i := by unfold wrap64; omega
      have hwi1 : wrap64 ((i : Int) + 1) = (i : Int) + 1 := by unfold wrap64; omega
      rw [hi]
      obtain ⟨fn, tmps, assign, body, hy, hRnd⟩ := hY pre (s1.extract 0 i) s1 _ hJ (by rw [← hpre, hw]; exact ⟨_, by rw [List.append_assoc]; rfl⟩)
      gi_wp2
      · refine ⟨fun hd => (by cases hd), hRnd.mono ?_⟩
        rintro e W3 (⟨rfl, hJ3⟩ | ⟨rfl, hJx3⟩)
        · obtain ⟨hc13, hc33, cur3, ty3, hh3, hcur3⟩ := hF _ s1 _ hJ3
          have hc23 : W3.cell? ⟨b2, o2, none⟩ = some (.string s1) := (cell_of_heap hh3).trans hcur3
          have hf23 : W3.frozen? ⟨b2, o2, none⟩ = false := by simp [World.frozen?, hh3]
          gi_wp2
          have hsz : (s1.extract (i + 1) s1.size).size = s1.size - (i + 1) := by rw [ByteArray.size_extract]; omega
          refine ⟨⟨pre ++ [s1.extract 0 i], s1.extract (i + 1) s1.size, hS _ _ _ _ hJ3, by rw [List.append_assoc, ← hpre, hw]; rfl, by omega⟩, ?_⟩
          have m1 : szAt b2 o2 (W3.setCell ⟨b2, o2, none⟩ (.string (s1.extract (i + 1) s1.size))) = s1.size - (i + 1) := by
            unfold szAt; rw [World.cell?_setCell_same _ _ _ hc23]; exact hsz
          have m2 : szAt b2 o2 wr = s1.size := by unfold szAt; rw [hc2]
          rw [m1, m2]; omega
        · gi_wp2
          refine bodyPost_ret (results_none rfl _ _ _) rfl ?_
          exact ⟨⟨_, rfl⟩, .inr hJx3⟩

theorem Tryd.sq_ok : SqOK Tryd.prog 52 :=
  ⟨fun args w => enters_of Tryd.func52 (by kernel_rfl) rfl args w, fun b1 o1 b2 o2 b3 o3 c s n l J Jx W hz hF hS hY h0 => Tryd.sq_in n l b1 o1 b2 o2 b3 o3 c s J Jx hF hS hY hz W h0⟩
end Go.Proofs
