/- What the evaluator gives for these functions: their contracts. No statement is proved here. -/
import Derived.Test.YtemhpncmhdcheabDoorFnExactParseTraceP0
import Derived.Test.YtemhpncmhdcheabDoorTt
import Derived.Test.YtemhpncmhdcheabDoorSh
import Derived.Test.YtemhpncmhdcheabDoorEvLb
import Derived.Test.YtemhpncmhdcheabDoorEvSq
namespace Go.Ev
set_option linter.unusedVariables false
set_option linter.unusedSimpArgs false
set_option maxRecDepth 100000
open Go Go.Proofs
def con_spec_splitAt : Con := ⟨[.rd, .rd], true, [.c (.sc), .c (.sc)], fun vs k => match vs with
    | [.c (.v (.string s0)), .c (.v (.int .u8 c1))] => F_spec_splitAt s0 c1 (fun r0 => k (.one (.c (.ro .str r0))) [])
    | _ => False, false⟩
def cl_spec_splitAt : List (FuncId × Con) := []
def nm0_spec_splitAt : List NStep := [.own 5 .str 90000, .keep [0, 1, 5, 6, 7] [90000]]
def an_spec_splitAt : Ann := ⟨[], [(4, nm0_spec_splitAt)], [], []⟩
def cs_spec_splitAt : Cons := ⟨cl_spec_splitAt, [], 0, [], [], []⟩
def can0_spec_splitAt (c1 : Int) (s0 : ByteArray) (xfrom6 : Int) (xi7 : Int) (xout5 : List ByteArray) : St := ⟨[(0, .one (.c (.v (.string s0)))), (1, .one (.c (.v (.int .u8 c1)))), (5, .one (.c (.ow 90000))), (6, .one (.c (.v (.int .i64 xfrom6)))), (7, .one (.c (.v (.int .i64 xi7))))], [(90000, .row .str xout5)]⟩
def fin_spec_splitAt (s0 : ByteArray) (c1 : Int) (kk : AV → List A1 → Prop) : Kt := fin TT con_spec_splitAt Tryd.f31.results.toList [.c (.sl .str)] [.c (.v (.string s0)), .c (.v (.int .u8 c1))] kk
def kt0_spec_splitAt (kf : Kt) : Kt := blockK 0 (seqK (evF TT cs_spec_splitAt 35 an_spec_splitAt Tryd.f31 [1, 1, 1, 1]) (kf))
theorem r0_spec_splitAt (s0 : ByteArray) (c1 : Int) (kk : AV → List A1 → Prop) (n : Nat) (xfrom6 : Int) (xi7 : Int) (xout5 : List ByteArray) :
    iter (evF TT cs_spec_splitAt 35 an_spec_splitAt Tryd.f31 [1, 1, 1, 0, 1, 0, 0]) nm0_spec_splitAt (kt0_spec_splitAt (fin_spec_splitAt s0 c1 kk)) (n + 1) (can0_spec_splitAt c1 s0 xfrom6 xi7 xout5) = T0_spec_splitAt c1 s0 xfrom6 xi7 xout5 (fun r0 => kk (.one (.c (.ro .str r0))) []) (fun xfrom6 xi7 xout5 => iter (evF TT cs_spec_splitAt 35 an_spec_splitAt Tryd.f31 [1, 1, 1, 0, 1, 0, 0]) nm0_spec_splitAt (kt0_spec_splitAt (fin_spec_splitAt s0 c1 kk)) n (can0_spec_splitAt c1 s0 xfrom6 xi7 xout5)) := by kernel_rfl
theorem l0_spec_splitAt (s0 : ByteArray) (c1 : Int) (kk : AV → List A1 → Prop) : ∀ (n : Nat) (xfrom6 : Int) (xi7 : Int) (xout5 : List ByteArray), iter (evF TT cs_spec_splitAt 35 an_spec_splitAt Tryd.f31 [1, 1, 1, 0, 1, 0, 0]) nm0_spec_splitAt (kt0_spec_splitAt (fin_spec_splitAt s0 c1 kk)) n (can0_spec_splitAt c1 s0 xfrom6 xi7 xout5) = L0_spec_splitAt c1 s0 (fun r0 => kk (.one (.c (.ro .str r0))) []) n xfrom6 xi7 xout5 := by
  intro n
  induction n with
  | zero => intros; rfl
  | succ n ih =>
    intro xfrom6 xi7 xout5
    rw [r0_spec_splitAt s0 c1 kk n xfrom6 xi7 xout5]
    have hb : (fun xfrom6 xi7 xout5 => iter (evF TT cs_spec_splitAt 35 an_spec_splitAt Tryd.f31 [1, 1, 1, 0, 1, 0, 0]) nm0_spec_splitAt (kt0_spec_splitAt (fin_spec_splitAt s0 c1 kk)) n (can0_spec_splitAt c1 s0 xfrom6 xi7 xout5)) = L0_spec_splitAt c1 s0 (fun r0 => kk (.one (.c (.ro .str r0))) []) n := by
      funext xfrom6 xi7 xout5; exact ih xfrom6 xi7 xout5
    rw [hb]
    rfl
theorem g_spec_splitAt (s0 : ByteArray) (c1 : Int) (kk : AV → List A1 → Prop) :
    ev TT cs_spec_splitAt 35 an_spec_splitAt (Tryd.f31.body.getD .skip) (st0 con_spec_splitAt [.c (.v (.string s0)), .c (.v (.int .u8 c1))]) (fin TT con_spec_splitAt Tryd.f31.results.toList [.c (.sl .str)] [.c (.v (.string s0)), .c (.v (.int .u8 c1))] kk) = G_spec_splitAt s0 c1 (fun c1 s0 xfrom6 xi7 xout5 => ∃ j, iter (evF TT cs_spec_splitAt 35 an_spec_splitAt Tryd.f31 [1, 1, 1, 0, 1, 0, 0]) nm0_spec_splitAt (kt0_spec_splitAt (fin_spec_splitAt s0 c1 kk)) j (can0_spec_splitAt c1 s0 xfrom6 xi7 xout5)) := by kernel_rfl
theorem e_spec_splitAt (s0 : ByteArray) (c1 : Int) (kk : AV → List A1 → Prop) :
    ev TT cs_spec_splitAt 35 an_spec_splitAt (Tryd.f31.body.getD .skip) (st0 con_spec_splitAt [.c (.v (.string s0)), .c (.v (.int .u8 c1))]) (fin TT con_spec_splitAt Tryd.f31.results.toList [.c (.sl .str)] [.c (.v (.string s0)), .c (.v (.int .u8 c1))] kk) = S_spec_splitAt s0 c1 (fun r0 => kk (.one (.c (.ro .str r0))) []) := by
  rw [g_spec_splitAt]
  have hi0 : (fun c1 s0 xfrom6 xi7 xout5 => ∃ j, iter (evF TT cs_spec_splitAt 35 an_spec_splitAt Tryd.f31 [1, 1, 1, 0, 1, 0, 0]) nm0_spec_splitAt (kt0_spec_splitAt (fin_spec_splitAt s0 c1 kk)) j (can0_spec_splitAt c1 s0 xfrom6 xi7 xout5)) = (fun c1 s0 xfrom6 xi7 xout5 => ∃ j, L0_spec_splitAt c1 s0 (fun r0 => kk (.one (.c (.ro .str r0))) []) j xfrom6 xi7 xout5) := by
    funext c1 s0 xfrom6 xi7 xout5
    refine congrArg Exists (funext fun j => ?_)
    rw [l0_spec_splitAt s0 c1 kk j xfrom6 xi7 xout5]
  rw [hi0]
  rfl
theorem clok_spec_splitAt : ConOK Tryd.prog cl_spec_splitAt := consNil
theorem cok_spec_splitAt : ConsOK Tryd.prog 35 cs_spec_splitAt := ⟨clok_spec_splitAt, inlNil, ovNil⟩
theorem i_spec_splitAt {vs : List A1} {kk : AV → List A1 → Prop} {motive : List A1 → Prop} (h : con_spec_splitAt.F vs kk) (H : ∀ (s0 : ByteArray) (c1 : Int), F_spec_splitAt s0 c1 (fun r0 => kk (.one (.c (.ro .str r0))) []) → motive [.c (.v (.string s0)), .c (.v (.int .u8 c1))]) : motive vs := by
  unfold con_spec_splitAt at h
  dsimp only at h
  split at h
  · exact H _ _ h
  · exact h.elim
theorem h_spec_splitAt : Holds Tryd.prog 31 con_spec_splitAt := by
  refine holds_of_ev (rt := [.c (.sl .str)]) (T := TT) (Γ := cs_spec_splitAt) (an := an_spec_splitAt) (N := 35) (c := Tryd.f31.body.getD .skip) Tryd.func31 (by kernel_rfl) Tryd.ntmps31 (by decide) (by decide) mixed tabOK cok_spec_splitAt (by kernel_rfl) ?_
  intro vs kk _ hF
  exact i_spec_splitAt (motive := fun vs => Goes (ev TT cs_spec_splitAt 35 an_spec_splitAt (Tryd.f31.body.getD .skip) (st0 con_spec_splitAt vs) (fin TT con_spec_splitAt Tryd.f31.results.toList [.c (.sl .str)] vs kk))) hF (fun s0 c1 hF => goes_of (e_spec_splitAt s0 c1 kk) (F_spec_splitAt_S hF))
def con_spec_inRange : Con := ⟨[.rd, .rd, .rd], true, [.c (.sc), .c (.sc), .c (.sc)], fun vs k => match vs with
    | [.c (.v (.int .i64 n0)), .c (.v (.int .i64 low1)), .c (.v (.int .i64 high2))] => F_spec_inRange n0 low1 high2 (fun r0 => k (.one (.c (.v (.bool r0)))) [])
    | _ => False, false⟩
def cl_spec_inRange : List (FuncId × Con) := []
def an_spec_inRange : Ann := ⟨[], [], [], []⟩
def cs_spec_inRange : Cons := ⟨cl_spec_inRange, [], 0, [], [], []⟩
def fin_spec_inRange (n0 : Int) (low1 : Int) (high2 : Int) (kk : AV → List A1 → Prop) : Kt := fin TT con_spec_inRange Tryd.f33.results.toList [.c .sc] [.c (.v (.int .i64 n0)), .c (.v (.int .i64 low1)), .c (.v (.int .i64 high2))] kk
theorem g_spec_inRange (n0 : Int) (low1 : Int) (high2 : Int) (kk : AV → List A1 → Prop) :
    ev TT cs_spec_inRange 15 an_spec_inRange (Tryd.f33.body.getD .skip) (st0 con_spec_inRange [.c (.v (.int .i64 n0)), .c (.v (.int .i64 low1)), .c (.v (.int .i64 high2))]) (fin TT con_spec_inRange Tryd.f33.results.toList [.c .sc] [.c (.v (.int .i64 n0)), .c (.v (.int .i64 low1)), .c (.v (.int .i64 high2))] kk) = G_spec_inRange n0 low1 high2 (fun r0 => kk (.one (.c (.v (.bool r0)))) []) := by kernel_rfl
theorem e_spec_inRange (n0 : Int) (low1 : Int) (high2 : Int) (kk : AV → List A1 → Prop) :
    ev TT cs_spec_inRange 15 an_spec_inRange (Tryd.f33.body.getD .skip) (st0 con_spec_inRange [.c (.v (.int .i64 n0)), .c (.v (.int .i64 low1)), .c (.v (.int .i64 high2))]) (fin TT con_spec_inRange Tryd.f33.results.toList [.c .sc] [.c (.v (.int .i64 n0)), .c (.v (.int .i64 low1)), .c (.v (.int .i64 high2))] kk) = S_spec_inRange n0 low1 high2 (fun r0 => kk (.one (.c (.v (.bool r0)))) []) := by
  rw [g_spec_inRange]
  rfl
theorem clok_spec_inRange : ConOK Tryd.prog cl_spec_inRange := consNil
theorem cok_spec_inRange : ConsOK Tryd.prog 15 cs_spec_inRange := ⟨clok_spec_inRange, inlNil, ovNil⟩
theorem i_spec_inRange {vs : List A1} {kk : AV → List A1 → Prop} {motive : List A1 → Prop} (h : con_spec_inRange.F vs kk) (H : ∀ (n0 : Int) (low1 : Int) (high2 : Int), F_spec_inRange n0 low1 high2 (fun r0 => kk (.one (.c (.v (.bool r0)))) []) → motive [.c (.v (.int .i64 n0)), .c (.v (.int .i64 low1)), .c (.v (.int .i64 high2))]) : motive vs := by
  unfold con_spec_inRange at h
  dsimp only at h
  split at h
  · exact H _ _ _ h
  · exact h.elim
theorem h_spec_inRange : Holds Tryd.prog 33 con_spec_inRange := by
  refine holds_of_ev (rt := [.c .sc]) (T := TT) (Γ := cs_spec_inRange) (an := an_spec_inRange) (N := 15) (c := Tryd.f33.body.getD .skip) Tryd.func33 (by kernel_rfl) Tryd.ntmps33 (by decide) (by decide) mixed tabOK cok_spec_inRange (by kernel_rfl) ?_
  intro vs kk _ hF
  exact i_spec_inRange (motive := fun vs => Goes (ev TT cs_spec_inRange 15 an_spec_inRange (Tryd.f33.body.getD .skip) (st0 con_spec_inRange vs) (fin TT con_spec_inRange Tryd.f33.results.toList [.c .sc] vs kk))) hF (fun n0 low1 high2 hF => goes_of (e_spec_inRange n0 low1 high2 kk) (F_spec_inRange_S hF))
def con_spec_decimal : Con := ⟨[.rd], true, [.c (.sc)], fun vs k => match vs with
    | [.c (.v (.int .i64 n0))] => F_spec_decimal n0 (fun r0 => k (.one (.c (.v (.string r0)))) [])
    | _ => False, false⟩
def conr_spec_decimal (nn : Nat) : Con := { con_spec_decimal with F := fun vs k => match vs with
    | [.c (.v (.int .i64 n0))] => Fr_spec_decimal nn n0 (fun r0 => k (.one (.c (.v (.string r0)))) [])
    | _ => False }
def cl_spec_decimal (nn : Nat) : List (FuncId × Con) := [(43, conr_spec_decimal nn)]
def an_spec_decimal : Ann := ⟨[(7, .take 0 (.take 1 (.take 3 (.take 4 (.take 5 (.take 6 (.alt 2 (.alt 7 (.alt 8 (.take 9 (.take 10 (.done))) (.none)) (.none)) (.alt 7 (.alt 2 (.alt 8 (.take 9 (.take 10 (.done))) (.none)) (.alt 8 (.alt 2 (.take 9 (.take 10 (.done))) (.none)) (.none))) (.none)))))))), [])], [], [], []⟩
def cs_spec_decimal (nn : Nat) : Cons := ⟨cl_spec_decimal nn, [], 0, [], [], []⟩
def fin_spec_decimal (nn : Nat) (n0 : Int) (kk : AV → List A1 → Prop) : Kt := fin TT (conr_spec_decimal (nn + 1)) Tryd.f43.results.toList [.c .sc] [.c (.v (.int .i64 n0))] kk
theorem g_spec_decimal (nn : Nat) (n0 : Int) (kk : AV → List A1 → Prop) :
    ev TT (cs_spec_decimal nn) 34 an_spec_decimal (Tryd.f43.body.getD .skip) (st0 (conr_spec_decimal (nn + 1)) [.c (.v (.int .i64 n0))]) (fin TT (conr_spec_decimal (nn + 1)) Tryd.f43.results.toList [.c .sc] [.c (.v (.int .i64 n0))] kk) = G_spec_decimal nn n0 (fun r0 => kk (.one (.c (.v (.string r0)))) []) := by kernel_rfl
theorem e_spec_decimal (nn : Nat) (n0 : Int) (kk : AV → List A1 → Prop) :
    ev TT (cs_spec_decimal nn) 34 an_spec_decimal (Tryd.f43.body.getD .skip) (st0 (conr_spec_decimal (nn + 1)) [.c (.v (.int .i64 n0))]) (fin TT (conr_spec_decimal (nn + 1)) Tryd.f43.results.toList [.c .sc] [.c (.v (.int .i64 n0))] kk) = S_spec_decimal nn n0 (fun r0 => kk (.one (.c (.v (.string r0)))) []) := by
  rw [g_spec_decimal]
  rw [G_spec_decimal_eq]
  rfl
theorem clok_spec_decimal (nn : Nat) (hr : Holds Tryd.prog 43 (conr_spec_decimal nn)) : ConOK Tryd.prog (cl_spec_decimal nn) := consCons hr ⟨Tryd.f43, Tryd.func43, by kernel_rfl, ne_of_beq (by kernel_rfl)⟩ (consNil)
theorem cok_spec_decimal (nn : Nat) (hr : Holds Tryd.prog 43 (conr_spec_decimal nn)) : ConsOK Tryd.prog 34 (cs_spec_decimal nn) := ⟨clok_spec_decimal nn hr, inlNil, ovNil⟩
theorem ir_spec_decimal (nn : Nat) {vs : List A1} {kk : AV → List A1 → Prop} {motive : List A1 → Prop} (h : (conr_spec_decimal nn).F vs kk) (H : ∀ (n0 : Int), Fr_spec_decimal nn n0 (fun r0 => kk (.one (.c (.v (.string r0)))) []) → motive [.c (.v (.int .i64 n0))]) : motive vs := by
  unfold conr_spec_decimal at h
  dsimp only at h
  split at h
  · exact H _ h
  · exact h.elim
theorem i_spec_decimal {vs : List A1} {kk : AV → List A1 → Prop} {motive : List A1 → Prop} (h : (con_spec_decimal).F vs kk) (H : ∀ (n0 : Int), F_spec_decimal n0 (fun r0 => kk (.one (.c (.v (.string r0)))) []) → motive [.c (.v (.int .i64 n0))]) : motive vs := by
  unfold con_spec_decimal at h
  dsimp only at h
  split at h
  · exact H _ h
  · exact h.elim
theorem hr_spec_decimal : ∀ nn : Nat, Holds Tryd.prog 43 (conr_spec_decimal nn) := by
  intro nn
  induction nn with
  | zero => intro vs kk h; exact (ir_spec_decimal 0 (motive := fun _ => False) h (fun _ hF => absurd hF.1 (Nat.not_lt_zero _))).elim
  | succ nn ih =>
    refine holds_of_ev (rt := [.c .sc]) (T := TT) (Γ := cs_spec_decimal nn) (an := an_spec_decimal) (N := 34) (c := Tryd.f43.body.getD .skip) Tryd.func43 (by kernel_rfl) Tryd.ntmps43 (show (cs_spec_decimal 0).B + 16 * 34 + 16 ≤ 100000 by decide) (show (conr_spec_decimal 0).mu.length ≤ 34 by decide) mixed tabOK (cok_spec_decimal nn ih) (by kernel_rfl) ?_
    intro vs kk _ hF
    exact ir_spec_decimal (nn + 1) (motive := fun vs => Goes (ev TT (cs_spec_decimal nn) 34 an_spec_decimal (Tryd.f43.body.getD .skip) (st0 (conr_spec_decimal (nn + 1)) vs) (fin TT (conr_spec_decimal (nn + 1)) Tryd.f43.results.toList [.c .sc] vs kk))) hF (fun n0 hF => goes_of (e_spec_decimal nn n0 kk) (F_spec_decimal_S (Nat.le_of_lt_succ hF.1) hF.2))
theorem h_spec_decimal : Holds Tryd.prog 43 con_spec_decimal := by
  refine holds_of_any fun vs kk h => ?_
  exact i_spec_decimal (motive := fun vs => ∃ F, Holds Tryd.prog 43 { con_spec_decimal with F := F } ∧ F vs kk) h (fun n0 hF => ⟨(conr_spec_decimal (M_spec_decimal n0 + 1)).F, hr_spec_decimal _, ⟨Nat.lt_succ_self _, hF⟩⟩)
def con_spec_parseInt : Con := ⟨[.rd], true, [.c (.sc)], fun vs k => match vs with
    | [.c (.v (.string s0))] => F_spec_parseInt s0 (fun r0 r1 => k (.tup [.c (.v (.int .i64 r0)), .c (.v (.bool r1))]) [])
    | _ => False, false⟩
def cl_spec_parseInt : List (FuncId × Con) := [(33, con_spec_inRange), (43, con_spec_decimal)]
def nm0_spec_parseInt : List NStep := [.keep [0, 4, 5] []]
def an_spec_parseInt : Ann := ⟨[], [(3, nm0_spec_parseInt)], [], []⟩
def cs_spec_parseInt : Cons := ⟨cl_spec_parseInt, [], 0, [], [], []⟩
def can0_spec_parseInt (s0 : ByteArray) (xn4 : Int) (xi5 : Int) : St := ⟨[(0, .one (.c (.v (.string s0)))), (4, .one (.c (.v (.int .i64 xn4)))), (5, .one (.c (.v (.int .i64 xi5))))], []⟩
def fin_spec_parseInt (s0 : ByteArray) (kk : AV → List A1 → Prop) : Kt := fin TT con_spec_parseInt Tryd.f32.results.toList [.c .sc, .c .sc] [.c (.v (.string s0))] kk
def kt0_spec_parseInt (kf : Kt) : Kt := blockK 0 (seqK (evF TT cs_spec_parseInt 63 an_spec_parseInt Tryd.f32 [1, 1, 1]) (kf))
theorem r0_spec_parseInt (s0 : ByteArray) (kk : AV → List A1 → Prop) (n : Nat) (xn4 : Int) (xi5 : Int) :
    iter (evF TT cs_spec_parseInt 63 an_spec_parseInt Tryd.f32 [1, 1, 0, 1, 0, 0]) nm0_spec_parseInt (kt0_spec_parseInt (fin_spec_parseInt s0 kk)) (n + 1) (can0_spec_parseInt s0 xn4 xi5) = T0_spec_parseInt s0 xn4 xi5 (fun r0 r1 => kk (.tup [.c (.v (.int .i64 r0)), .c (.v (.bool r1))]) []) (fun xn4 xi5 => iter (evF TT cs_spec_parseInt 63 an_spec_parseInt Tryd.f32 [1, 1, 0, 1, 0, 0]) nm0_spec_parseInt (kt0_spec_parseInt (fin_spec_parseInt s0 kk)) n (can0_spec_parseInt s0 xn4 xi5)) := by kernel_rfl
theorem l0_spec_parseInt (s0 : ByteArray) (kk : AV → List A1 → Prop) : ∀ (n : Nat) (xn4 : Int) (xi5 : Int), iter (evF TT cs_spec_parseInt 63 an_spec_parseInt Tryd.f32 [1, 1, 0, 1, 0, 0]) nm0_spec_parseInt (kt0_spec_parseInt (fin_spec_parseInt s0 kk)) n (can0_spec_parseInt s0 xn4 xi5) = L0_spec_parseInt s0 (fun r0 r1 => kk (.tup [.c (.v (.int .i64 r0)), .c (.v (.bool r1))]) []) n xn4 xi5 := by
  intro n
  induction n with
  | zero => intros; rfl
  | succ n ih =>
    intro xn4 xi5
    rw [r0_spec_parseInt s0 kk n xn4 xi5]
    have hb : (fun xn4 xi5 => iter (evF TT cs_spec_parseInt 63 an_spec_parseInt Tryd.f32 [1, 1, 0, 1, 0, 0]) nm0_spec_parseInt (kt0_spec_parseInt (fin_spec_parseInt s0 kk)) n (can0_spec_parseInt s0 xn4 xi5)) = L0_spec_parseInt s0 (fun r0 r1 => kk (.tup [.c (.v (.int .i64 r0)), .c (.v (.bool r1))]) []) n := by
      funext xn4 xi5; exact ih xn4 xi5
    rw [hb]
    rfl
theorem g_spec_parseInt (s0 : ByteArray) (kk : AV → List A1 → Prop) :
    ev TT cs_spec_parseInt 63 an_spec_parseInt (Tryd.f32.body.getD .skip) (st0 con_spec_parseInt [.c (.v (.string s0))]) (fin TT con_spec_parseInt Tryd.f32.results.toList [.c .sc, .c .sc] [.c (.v (.string s0))] kk) = G_spec_parseInt s0 (fun s0 xn4 xi5 => ∃ j, iter (evF TT cs_spec_parseInt 63 an_spec_parseInt Tryd.f32 [1, 1, 0, 1, 0, 0]) nm0_spec_parseInt (kt0_spec_parseInt (fin_spec_parseInt s0 kk)) j (can0_spec_parseInt s0 xn4 xi5)) := by kernel_rfl
theorem e_spec_parseInt (s0 : ByteArray) (kk : AV → List A1 → Prop) :
    ev TT cs_spec_parseInt 63 an_spec_parseInt (Tryd.f32.body.getD .skip) (st0 con_spec_parseInt [.c (.v (.string s0))]) (fin TT con_spec_parseInt Tryd.f32.results.toList [.c .sc, .c .sc] [.c (.v (.string s0))] kk) = S_spec_parseInt s0 (fun r0 r1 => kk (.tup [.c (.v (.int .i64 r0)), .c (.v (.bool r1))]) []) := by
  rw [g_spec_parseInt]
  have hi0 : (fun s0 xn4 xi5 => ∃ j, iter (evF TT cs_spec_parseInt 63 an_spec_parseInt Tryd.f32 [1, 1, 0, 1, 0, 0]) nm0_spec_parseInt (kt0_spec_parseInt (fin_spec_parseInt s0 kk)) j (can0_spec_parseInt s0 xn4 xi5)) = (fun s0 xn4 xi5 => ∃ j, L0_spec_parseInt s0 (fun r0 r1 => kk (.tup [.c (.v (.int .i64 r0)), .c (.v (.bool r1))]) []) j xn4 xi5) := by
    funext s0 xn4 xi5
    refine congrArg Exists (funext fun j => ?_)
    rw [l0_spec_parseInt s0 kk j xn4 xi5]
  rw [hi0]
  rfl
theorem clok_spec_parseInt : ConOK Tryd.prog cl_spec_parseInt := consCons h_spec_inRange ⟨Tryd.f33, Tryd.func33, by kernel_rfl, ne_of_beq (by kernel_rfl)⟩ (consCons h_spec_decimal ⟨Tryd.f43, Tryd.func43, by kernel_rfl, ne_of_beq (by kernel_rfl)⟩ (consNil))
theorem cok_spec_parseInt : ConsOK Tryd.prog 63 cs_spec_parseInt := ⟨clok_spec_parseInt, inlNil, ovNil⟩
theorem i_spec_parseInt {vs : List A1} {kk : AV → List A1 → Prop} {motive : List A1 → Prop} (h : con_spec_parseInt.F vs kk) (H : ∀ (s0 : ByteArray), F_spec_parseInt s0 (fun r0 r1 => kk (.tup [.c (.v (.int .i64 r0)), .c (.v (.bool r1))]) []) → motive [.c (.v (.string s0))]) : motive vs := by
  unfold con_spec_parseInt at h
  dsimp only at h
  split at h
  · exact H _ h
  · exact h.elim
theorem h_spec_parseInt : Holds Tryd.prog 32 con_spec_parseInt := by
  refine holds_of_ev (rt := [.c .sc, .c .sc]) (T := TT) (Γ := cs_spec_parseInt) (an := an_spec_parseInt) (N := 63) (c := Tryd.f32.body.getD .skip) Tryd.func32 (by kernel_rfl) Tryd.ntmps32 (by decide) (by decide) mixed tabOK cok_spec_parseInt (by kernel_rfl) ?_
  intro vs kk _ hF
  exact i_spec_parseInt (motive := fun vs => Goes (ev TT cs_spec_parseInt 63 an_spec_parseInt (Tryd.f32.body.getD .skip) (st0 con_spec_parseInt vs) (fin TT con_spec_parseInt Tryd.f32.results.toList [.c .sc, .c .sc] vs kk))) hF (fun s0 hF => goes_of (e_spec_parseInt s0 kk) (F_spec_parseInt_S hF))
def con_spec_allIn : Con := ⟨[.rd, .rd, .rd], true, [.c (.sl .int), .c (.sc), .c (.sc)], fun vs k => match vs with
    | [.c (.ro .int list0), .c (.v (.int .i64 low1)), .c (.v (.int .i64 high2))] => F_spec_allIn list0 low1 high2 (fun r0 => k (.one (.c (.v (.bool r0)))) [])
    | _ => False, false⟩
def cl_spec_allIn : List (FuncId × Con) := [(33, con_spec_inRange)]
def nm0_spec_allIn : List NStep := [.keep [0, 1, 2, 7] []]
def an_spec_allIn : Ann := ⟨[], [(2, nm0_spec_allIn)], [], []⟩
def cs_spec_allIn : Cons := ⟨cl_spec_allIn, [], 0, [], [], []⟩
def can0_spec_allIn (high2 : Int) (list0 : List Int) (low1 : Int) (xi7 : Int) : St := ⟨[(0, .one (.c (.ro .int list0))), (1, .one (.c (.v (.int .i64 low1)))), (2, .one (.c (.v (.int .i64 high2)))), (7, .one (.c (.v (.int .i64 xi7))))], []⟩
def fin_spec_allIn (list0 : List Int) (low1 : Int) (high2 : Int) (kk : AV → List A1 → Prop) : Kt := fin TT con_spec_allIn Tryd.f41.results.toList [.c .sc] [.c (.ro .int list0), .c (.v (.int .i64 low1)), .c (.v (.int .i64 high2))] kk
def kt0_spec_allIn (kf : Kt) : Kt := blockK 0 (seqK (evF TT cs_spec_allIn 22 an_spec_allIn Tryd.f41 [1, 1]) (kf))
theorem r0_spec_allIn (list0 : List Int) (low1 : Int) (high2 : Int) (kk : AV → List A1 → Prop) (n : Nat) (xi7 : Int) :
    iter (evF TT cs_spec_allIn 22 an_spec_allIn Tryd.f41 [1, 0, 1, 0, 0]) nm0_spec_allIn (kt0_spec_allIn (fin_spec_allIn list0 low1 high2 kk)) (n + 1) (can0_spec_allIn high2 list0 low1 xi7) = T0_spec_allIn high2 list0 low1 xi7 (fun r0 => kk (.one (.c (.v (.bool r0)))) []) (fun xi7 => iter (evF TT cs_spec_allIn 22 an_spec_allIn Tryd.f41 [1, 0, 1, 0, 0]) nm0_spec_allIn (kt0_spec_allIn (fin_spec_allIn list0 low1 high2 kk)) n (can0_spec_allIn high2 list0 low1 xi7)) := by kernel_rfl
theorem l0_spec_allIn (list0 : List Int) (low1 : Int) (high2 : Int) (kk : AV → List A1 → Prop) : ∀ (n : Nat) (xi7 : Int), iter (evF TT cs_spec_allIn 22 an_spec_allIn Tryd.f41 [1, 0, 1, 0, 0]) nm0_spec_allIn (kt0_spec_allIn (fin_spec_allIn list0 low1 high2 kk)) n (can0_spec_allIn high2 list0 low1 xi7) = L0_spec_allIn high2 list0 low1 (fun r0 => kk (.one (.c (.v (.bool r0)))) []) n xi7 := by
  intro n
  induction n with
  | zero => intros; rfl
  | succ n ih =>
    intro xi7
    rw [r0_spec_allIn list0 low1 high2 kk n xi7]
    have hb : (fun xi7 => iter (evF TT cs_spec_allIn 22 an_spec_allIn Tryd.f41 [1, 0, 1, 0, 0]) nm0_spec_allIn (kt0_spec_allIn (fin_spec_allIn list0 low1 high2 kk)) n (can0_spec_allIn high2 list0 low1 xi7)) = L0_spec_allIn high2 list0 low1 (fun r0 => kk (.one (.c (.v (.bool r0)))) []) n := by
      funext xi7; exact ih xi7
    rw [hb]
    rfl
theorem g_spec_allIn (list0 : List Int) (low1 : Int) (high2 : Int) (kk : AV → List A1 → Prop) :
    ev TT cs_spec_allIn 22 an_spec_allIn (Tryd.f41.body.getD .skip) (st0 con_spec_allIn [.c (.ro .int list0), .c (.v (.int .i64 low1)), .c (.v (.int .i64 high2))]) (fin TT con_spec_allIn Tryd.f41.results.toList [.c .sc] [.c (.ro .int list0), .c (.v (.int .i64 low1)), .c (.v (.int .i64 high2))] kk) = G_spec_allIn list0 low1 high2 (fun high2 list0 low1 xi7 => ∃ j, iter (evF TT cs_spec_allIn 22 an_spec_allIn Tryd.f41 [1, 0, 1, 0, 0]) nm0_spec_allIn (kt0_spec_allIn (fin_spec_allIn list0 low1 high2 kk)) j (can0_spec_allIn high2 list0 low1 xi7)) := by kernel_rfl
theorem e_spec_allIn (list0 : List Int) (low1 : Int) (high2 : Int) (kk : AV → List A1 → Prop) :
    ev TT cs_spec_allIn 22 an_spec_allIn (Tryd.f41.body.getD .skip) (st0 con_spec_allIn [.c (.ro .int list0), .c (.v (.int .i64 low1)), .c (.v (.int .i64 high2))]) (fin TT con_spec_allIn Tryd.f41.results.toList [.c .sc] [.c (.ro .int list0), .c (.v (.int .i64 low1)), .c (.v (.int .i64 high2))] kk) = S_spec_allIn list0 low1 high2 (fun r0 => kk (.one (.c (.v (.bool r0)))) []) := by
  rw [g_spec_allIn]
  have hi0 : (fun high2 list0 low1 xi7 => ∃ j, iter (evF TT cs_spec_allIn 22 an_spec_allIn Tryd.f41 [1, 0, 1, 0, 0]) nm0_spec_allIn (kt0_spec_allIn (fin_spec_allIn list0 low1 high2 kk)) j (can0_spec_allIn high2 list0 low1 xi7)) = (fun high2 list0 low1 xi7 => ∃ j, L0_spec_allIn high2 list0 low1 (fun r0 => kk (.one (.c (.v (.bool r0)))) []) j xi7) := by
    funext high2 list0 low1 xi7
    refine congrArg Exists (funext fun j => ?_)
    rw [l0_spec_allIn list0 low1 high2 kk j xi7]
  rw [hi0]
  rfl
theorem clok_spec_allIn : ConOK Tryd.prog cl_spec_allIn := consCons h_spec_inRange ⟨Tryd.f33, Tryd.func33, by kernel_rfl, ne_of_beq (by kernel_rfl)⟩ (consNil)
theorem cok_spec_allIn : ConsOK Tryd.prog 22 cs_spec_allIn := ⟨clok_spec_allIn, inlNil, ovNil⟩
theorem i_spec_allIn {vs : List A1} {kk : AV → List A1 → Prop} {motive : List A1 → Prop} (h : con_spec_allIn.F vs kk) (H : ∀ (list0 : List Int) (low1 : Int) (high2 : Int), F_spec_allIn list0 low1 high2 (fun r0 => kk (.one (.c (.v (.bool r0)))) []) → motive [.c (.ro .int list0), .c (.v (.int .i64 low1)), .c (.v (.int .i64 high2))]) : motive vs := by
  unfold con_spec_allIn at h
  dsimp only at h
  split at h
  · exact H _ _ _ h
  · exact h.elim
theorem h_spec_allIn : Holds Tryd.prog 41 con_spec_allIn := by
  refine holds_of_ev (rt := [.c .sc]) (T := TT) (Γ := cs_spec_allIn) (an := an_spec_allIn) (N := 22) (c := Tryd.f41.body.getD .skip) Tryd.func41 (by kernel_rfl) Tryd.ntmps41 (by decide) (by decide) mixed tabOK cok_spec_allIn (by kernel_rfl) ?_
  intro vs kk _ hF
  exact i_spec_allIn (motive := fun vs => Goes (ev TT cs_spec_allIn 22 an_spec_allIn (Tryd.f41.body.getD .skip) (st0 con_spec_allIn vs) (fin TT con_spec_allIn Tryd.f41.results.toList [.c .sc] vs kk))) hF (fun list0 low1 high2 hF => goes_of (e_spec_allIn list0 low1 high2 kk) (F_spec_allIn_S hF))
def con_spec_validTrace : Con := ⟨[.rd], true, [.c (.sl .int)], fun vs k => match vs with
    | [.c (.ro .int t0)] => F_spec_validTrace t0 (fun r0 => k (.one (.c (.v (.bool r0)))) [])
    | _ => False, false⟩
def cl_spec_validTrace : List (FuncId × Con) := [(41, con_spec_allIn)]
def an_spec_validTrace : Ann := ⟨[], [], [], []⟩
def cs_spec_validTrace : Cons := ⟨cl_spec_validTrace, [], 0, [], [], []⟩
def fin_spec_validTrace (t0 : List Int) (kk : AV → List A1 → Prop) : Kt := fin TT con_spec_validTrace Tryd.f25.results.toList [.c .sc] [.c (.ro .int t0)] kk
theorem g_spec_validTrace (t0 : List Int) (kk : AV → List A1 → Prop) :
    ev TT cs_spec_validTrace 10 an_spec_validTrace (Tryd.f25.body.getD .skip) (st0 con_spec_validTrace [.c (.ro .int t0)]) (fin TT con_spec_validTrace Tryd.f25.results.toList [.c .sc] [.c (.ro .int t0)] kk) = G_spec_validTrace t0 (fun r0 => kk (.one (.c (.v (.bool r0)))) []) := by kernel_rfl
theorem e_spec_validTrace (t0 : List Int) (kk : AV → List A1 → Prop) :
    ev TT cs_spec_validTrace 10 an_spec_validTrace (Tryd.f25.body.getD .skip) (st0 con_spec_validTrace [.c (.ro .int t0)]) (fin TT con_spec_validTrace Tryd.f25.results.toList [.c .sc] [.c (.ro .int t0)] kk) = S_spec_validTrace t0 (fun r0 => kk (.one (.c (.v (.bool r0)))) []) := by
  rw [g_spec_validTrace]
  rfl
theorem clok_spec_validTrace : ConOK Tryd.prog cl_spec_validTrace := consCons h_spec_allIn ⟨Tryd.f41, Tryd.func41, by kernel_rfl, ne_of_beq (by kernel_rfl)⟩ (consNil)
theorem cok_spec_validTrace : ConsOK Tryd.prog 10 cs_spec_validTrace := ⟨clok_spec_validTrace, inlNil, ovNil⟩
theorem i_spec_validTrace {vs : List A1} {kk : AV → List A1 → Prop} {motive : List A1 → Prop} (h : con_spec_validTrace.F vs kk) (H : ∀ (t0 : List Int), F_spec_validTrace t0 (fun r0 => kk (.one (.c (.v (.bool r0)))) []) → motive [.c (.ro .int t0)]) : motive vs := by
  unfold con_spec_validTrace at h
  dsimp only at h
  split at h
  · exact H _ h
  · exact h.elim
theorem h_spec_validTrace : Holds Tryd.prog 25 con_spec_validTrace := by
  refine holds_of_ev (rt := [.c .sc]) (T := TT) (Γ := cs_spec_validTrace) (an := an_spec_validTrace) (N := 10) (c := Tryd.f25.body.getD .skip) Tryd.func25 (by kernel_rfl) Tryd.ntmps25 (by decide) (by decide) mixed tabOK cok_spec_validTrace (by kernel_rfl) ?_
  intro vs kk _ hF
  exact i_spec_validTrace (motive := fun vs => Goes (ev TT cs_spec_validTrace 10 an_spec_validTrace (Tryd.f25.body.getD .skip) (st0 con_spec_validTrace vs) (fin TT con_spec_validTrace Tryd.f25.results.toList [.c .sc] vs kk))) hF (fun t0 hF => goes_of (e_spec_validTrace t0 kk) (F_spec_validTrace_S hF))
def con_spec_run : Con := ⟨[.rd, .rd], true, [.c (.sl .int), .c (.sc)], fun vs k => match vs with
    | [.c (.ro .int t0), .c (.v (.int .i64 at1))] => F_spec_run t0 at1 (fun r0 => k (.one (.c (.v (.int .i64 r0)))) [])
    | _ => False, false⟩
def cl_spec_run : List (FuncId × Con) := []
def nm0_spec_run : List NStep := [.keep [0, 1, 5] []]
def an_spec_run : Ann := ⟨[(2, .take 0 (.take 1 (.take 2 (.take 3 (.take 4 (.take 5 (.take 6 (.take 7 (.take 8 (.take 9 (.take 10 (.take 11 (.take 12 (.take 13 (.take 14 (.take 15 (.take 16 (.take 17 (.take 18 (.done))))))))))))))))))), [])], [(2, nm0_spec_run)], [], []⟩
def cs_spec_run : Cons := ⟨cl_spec_run, [], 0, [], [], []⟩
def can0_spec_run (at1 : Int) (t0 : List Int) (xn5 : Int) : St := ⟨[(0, .one (.c (.ro .int t0))), (1, .one (.c (.v (.int .i64 at1)))), (5, .one (.c (.v (.int .i64 xn5))))], []⟩
def fin_spec_run (t0 : List Int) (at1 : Int) (kk : AV → List A1 → Prop) : Kt := fin TT con_spec_run Tryd.f42.results.toList [.c .sc] [.c (.ro .int t0), .c (.v (.int .i64 at1))] kk
def kt0_spec_run (kf : Kt) : Kt := blockK 0 (seqK (evF TT cs_spec_run 28 an_spec_run Tryd.f42 [1, 1, 1]) (kf))
theorem r0_spec_run (t0 : List Int) (at1 : Int) (kk : AV → List A1 → Prop) (n : Nat) (xn5 : Int) :
    iter (evF TT cs_spec_run 28 an_spec_run Tryd.f42 [1, 1, 0, 0, 0]) nm0_spec_run (kt0_spec_run (fin_spec_run t0 at1 kk)) (n + 1) (can0_spec_run at1 t0 xn5) = T0_spec_run at1 t0 xn5 (fun r0 => kk (.one (.c (.v (.int .i64 r0)))) []) (fun xn5 => iter (evF TT cs_spec_run 28 an_spec_run Tryd.f42 [1, 1, 0, 0, 0]) nm0_spec_run (kt0_spec_run (fin_spec_run t0 at1 kk)) n (can0_spec_run at1 t0 xn5)) := by kernel_rfl
theorem l0_spec_run (t0 : List Int) (at1 : Int) (kk : AV → List A1 → Prop) : ∀ (n : Nat) (xn5 : Int), iter (evF TT cs_spec_run 28 an_spec_run Tryd.f42 [1, 1, 0, 0, 0]) nm0_spec_run (kt0_spec_run (fin_spec_run t0 at1 kk)) n (can0_spec_run at1 t0 xn5) = L0_spec_run at1 t0 (fun r0 => kk (.one (.c (.v (.int .i64 r0)))) []) n xn5 := by
  intro n
  induction n with
  | zero => intros; rfl
  | succ n ih =>
    intro xn5
    rw [r0_spec_run t0 at1 kk n xn5]
    have hb : (fun xn5 => iter (evF TT cs_spec_run 28 an_spec_run Tryd.f42 [1, 1, 0, 0, 0]) nm0_spec_run (kt0_spec_run (fin_spec_run t0 at1 kk)) n (can0_spec_run at1 t0 xn5)) = L0_spec_run at1 t0 (fun r0 => kk (.one (.c (.v (.int .i64 r0)))) []) n := by
      funext xn5; exact ih xn5
    rw [hb]
    rfl
theorem g_spec_run (t0 : List Int) (at1 : Int) (kk : AV → List A1 → Prop) :
    ev TT cs_spec_run 28 an_spec_run (Tryd.f42.body.getD .skip) (st0 con_spec_run [.c (.ro .int t0), .c (.v (.int .i64 at1))]) (fin TT con_spec_run Tryd.f42.results.toList [.c .sc] [.c (.ro .int t0), .c (.v (.int .i64 at1))] kk) = G_spec_run t0 at1 (fun at1 t0 xn5 => ∃ j, iter (evF TT cs_spec_run 28 an_spec_run Tryd.f42 [1, 1, 0, 0, 0]) nm0_spec_run (kt0_spec_run (fin_spec_run t0 at1 kk)) j (can0_spec_run at1 t0 xn5)) := by kernel_rfl
theorem e_spec_run (t0 : List Int) (at1 : Int) (kk : AV → List A1 → Prop) :
    ev TT cs_spec_run 28 an_spec_run (Tryd.f42.body.getD .skip) (st0 con_spec_run [.c (.ro .int t0), .c (.v (.int .i64 at1))]) (fin TT con_spec_run Tryd.f42.results.toList [.c .sc] [.c (.ro .int t0), .c (.v (.int .i64 at1))] kk) = S_spec_run t0 at1 (fun r0 => kk (.one (.c (.v (.int .i64 r0)))) []) := by
  rw [g_spec_run]
  have hi0 : (fun at1 t0 xn5 => ∃ j, iter (evF TT cs_spec_run 28 an_spec_run Tryd.f42 [1, 1, 0, 0, 0]) nm0_spec_run (kt0_spec_run (fin_spec_run t0 at1 kk)) j (can0_spec_run at1 t0 xn5)) = (fun at1 t0 xn5 => ∃ j, L0_spec_run at1 t0 (fun r0 => kk (.one (.c (.v (.int .i64 r0)))) []) j xn5) := by
    funext at1 t0 xn5
    refine congrArg Exists (funext fun j => ?_)
    rw [l0_spec_run t0 at1 kk j xn5]
  rw [hi0]
  rfl
theorem clok_spec_run : ConOK Tryd.prog cl_spec_run := consNil
theorem cok_spec_run : ConsOK Tryd.prog 28 cs_spec_run := ⟨clok_spec_run, inlNil, ovNil⟩
theorem i_spec_run {vs : List A1} {kk : AV → List A1 → Prop} {motive : List A1 → Prop} (h : con_spec_run.F vs kk) (H : ∀ (t0 : List Int) (at1 : Int), F_spec_run t0 at1 (fun r0 => kk (.one (.c (.v (.int .i64 r0)))) []) → motive [.c (.ro .int t0), .c (.v (.int .i64 at1))]) : motive vs := by
  unfold con_spec_run at h
  dsimp only at h
  split at h
  · exact H _ _ h
  · exact h.elim
theorem h_spec_run : Holds Tryd.prog 42 con_spec_run := by
  refine holds_of_ev (rt := [.c .sc]) (T := TT) (Γ := cs_spec_run) (an := an_spec_run) (N := 28) (c := Tryd.f42.body.getD .skip) Tryd.func42 (by kernel_rfl) Tryd.ntmps42 (by decide) (by decide) mixed tabOK cok_spec_run (by kernel_rfl) ?_
  intro vs kk _ hF
  exact i_spec_run (motive := fun vs => Goes (ev TT cs_spec_run 28 an_spec_run (Tryd.f42.body.getD .skip) (st0 con_spec_run vs) (fin TT con_spec_run Tryd.f42.results.toList [.c .sc] vs kk))) hF (fun t0 at1 hF => goes_of (e_spec_run t0 at1 kk) (F_spec_run_S hF))
def con_spec_formatTrace : Con := ⟨[.rd], true, [.c (.sl .int)], fun vs k => match vs with
    | [.c (.ro .int t0)] => F_spec_formatTrace t0 (fun r0 => k (.one (.c (.v (.string r0)))) [])
    | _ => False, false⟩
def cl_spec_formatTrace : List (FuncId × Con) := [(42, con_spec_run), (43, con_spec_decimal)]
def nm0_spec_formatTrace : List NStep := [.keep [0, 3, 4] []]
def an_spec_formatTrace : Ann := ⟨[], [(3, nm0_spec_formatTrace)], [], []⟩
def cs_spec_formatTrace : Cons := ⟨cl_spec_formatTrace, [], 0, [], [], []⟩
def can0_spec_formatTrace (t0 : List Int) (xout3 : ByteArray) (xi4 : Int) : St := ⟨[(0, .one (.c (.ro .int t0))), (3, .one (.c (.v (.string xout3)))), (4, .one (.c (.v (.int .i64 xi4))))], []⟩
def fin_spec_formatTrace (t0 : List Int) (kk : AV → List A1 → Prop) : Kt := fin TT con_spec_formatTrace Tryd.f26.results.toList [.c .sc] [.c (.ro .int t0)] kk
def kt0_spec_formatTrace (kf : Kt) : Kt := blockK 0 (seqK (evF TT cs_spec_formatTrace 37 an_spec_formatTrace Tryd.f26 [1, 1, 1]) (kf))
theorem r0_spec_formatTrace (t0 : List Int) (kk : AV → List A1 → Prop) (n : Nat) (xout3 : ByteArray) (xi4 : Int) :
    iter (evF TT cs_spec_formatTrace 37 an_spec_formatTrace Tryd.f26 [1, 1, 0, 1, 0, 0]) nm0_spec_formatTrace (kt0_spec_formatTrace (fin_spec_formatTrace t0 kk)) (n + 1) (can0_spec_formatTrace t0 xout3 xi4) = T0_spec_formatTrace t0 xout3 xi4 (fun r0 => kk (.one (.c (.v (.string r0)))) []) (fun xout3 xi4 => iter (evF TT cs_spec_formatTrace 37 an_spec_formatTrace Tryd.f26 [1, 1, 0, 1, 0, 0]) nm0_spec_formatTrace (kt0_spec_formatTrace (fin_spec_formatTrace t0 kk)) n (can0_spec_formatTrace t0 xout3 xi4)) := by kernel_rfl
theorem l0_spec_formatTrace (t0 : List Int) (kk : AV → List A1 → Prop) : ∀ (n : Nat) (xout3 : ByteArray) (xi4 : Int), iter (evF TT cs_spec_formatTrace 37 an_spec_formatTrace Tryd.f26 [1, 1, 0, 1, 0, 0]) nm0_spec_formatTrace (kt0_spec_formatTrace (fin_spec_formatTrace t0 kk)) n (can0_spec_formatTrace t0 xout3 xi4) = L0_spec_formatTrace t0 (fun r0 => kk (.one (.c (.v (.string r0)))) []) n xout3 xi4 := by
  intro n
  induction n with
  | zero => intros; rfl
  | succ n ih =>
    intro xout3 xi4
    rw [r0_spec_formatTrace t0 kk n xout3 xi4]
    have hb : (fun xout3 xi4 => iter (evF TT cs_spec_formatTrace 37 an_spec_formatTrace Tryd.f26 [1, 1, 0, 1, 0, 0]) nm0_spec_formatTrace (kt0_spec_formatTrace (fin_spec_formatTrace t0 kk)) n (can0_spec_formatTrace t0 xout3 xi4)) = L0_spec_formatTrace t0 (fun r0 => kk (.one (.c (.v (.string r0)))) []) n := by
      funext xout3 xi4; exact ih xout3 xi4
    rw [hb]
    rfl
theorem g_spec_formatTrace (t0 : List Int) (kk : AV → List A1 → Prop) :
    ev TT cs_spec_formatTrace 37 an_spec_formatTrace (Tryd.f26.body.getD .skip) (st0 con_spec_formatTrace [.c (.ro .int t0)]) (fin TT con_spec_formatTrace Tryd.f26.results.toList [.c .sc] [.c (.ro .int t0)] kk) = G_spec_formatTrace t0 (fun t0 xout3 xi4 => ∃ j, iter (evF TT cs_spec_formatTrace 37 an_spec_formatTrace Tryd.f26 [1, 1, 0, 1, 0, 0]) nm0_spec_formatTrace (kt0_spec_formatTrace (fin_spec_formatTrace t0 kk)) j (can0_spec_formatTrace t0 xout3 xi4)) := by kernel_rfl
theorem e_spec_formatTrace (t0 : List Int) (kk : AV → List A1 → Prop) :
    ev TT cs_spec_formatTrace 37 an_spec_formatTrace (Tryd.f26.body.getD .skip) (st0 con_spec_formatTrace [.c (.ro .int t0)]) (fin TT con_spec_formatTrace Tryd.f26.results.toList [.c .sc] [.c (.ro .int t0)] kk) = S_spec_formatTrace t0 (fun r0 => kk (.one (.c (.v (.string r0)))) []) := by
  rw [g_spec_formatTrace]
  have hi0 : (fun t0 xout3 xi4 => ∃ j, iter (evF TT cs_spec_formatTrace 37 an_spec_formatTrace Tryd.f26 [1, 1, 0, 1, 0, 0]) nm0_spec_formatTrace (kt0_spec_formatTrace (fin_spec_formatTrace t0 kk)) j (can0_spec_formatTrace t0 xout3 xi4)) = (fun t0 xout3 xi4 => ∃ j, L0_spec_formatTrace t0 (fun r0 => kk (.one (.c (.v (.string r0)))) []) j xout3 xi4) := by
    funext t0 xout3 xi4
    refine congrArg Exists (funext fun j => ?_)
    rw [l0_spec_formatTrace t0 kk j xout3 xi4]
  rw [hi0]
  rfl
theorem clok_spec_formatTrace : ConOK Tryd.prog cl_spec_formatTrace := consCons h_spec_run ⟨Tryd.f42, Tryd.func42, by kernel_rfl, ne_of_beq (by kernel_rfl)⟩ (consCons h_spec_decimal ⟨Tryd.f43, Tryd.func43, by kernel_rfl, ne_of_beq (by kernel_rfl)⟩ (consNil))
theorem cok_spec_formatTrace : ConsOK Tryd.prog 37 cs_spec_formatTrace := ⟨clok_spec_formatTrace, inlNil, ovNil⟩
theorem i_spec_formatTrace {vs : List A1} {kk : AV → List A1 → Prop} {motive : List A1 → Prop} (h : con_spec_formatTrace.F vs kk) (H : ∀ (t0 : List Int), F_spec_formatTrace t0 (fun r0 => kk (.one (.c (.v (.string r0)))) []) → motive [.c (.ro .int t0)]) : motive vs := by
  unfold con_spec_formatTrace at h
  dsimp only at h
  split at h
  · exact H _ h
  · exact h.elim
theorem h_spec_formatTrace : Holds Tryd.prog 26 con_spec_formatTrace := by
  refine holds_of_ev (rt := [.c .sc]) (T := TT) (Γ := cs_spec_formatTrace) (an := an_spec_formatTrace) (N := 37) (c := Tryd.f26.body.getD .skip) Tryd.func26 (by kernel_rfl) Tryd.ntmps26 (by decide) (by decide) mixed tabOK cok_spec_formatTrace (by kernel_rfl) ?_
  intro vs kk _ hF
  exact i_spec_formatTrace (motive := fun vs => Goes (ev TT cs_spec_formatTrace 37 an_spec_formatTrace (Tryd.f26.body.getD .skip) (st0 con_spec_formatTrace vs) (fin TT con_spec_formatTrace Tryd.f26.results.toList [.c .sc] vs kk))) hF (fun t0 hF => goes_of (e_spec_formatTrace t0 kk) (F_spec_formatTrace_S hF))
def con_spec_ParseTrace : Con := ⟨[.rd], true, [.c (.sc)], fun vs k => match vs with
    | [.c (.v (.string s0))] => F_spec_ParseTrace s0 (fun r0 r1 => k (.tup [.c (.ro .int r0), .c (.v (.bool r1))]) [])
    | _ => False, false⟩
def cl_spec_ParseTrace : List (FuncId × Con) := [(25, con_spec_validTrace), (26, con_spec_formatTrace), (31, con_spec_splitAt), (32, con_spec_parseInt), (33, con_spec_inRange)]
def nm1_spec_ParseTrace : List NStep := [.own 4 .int 90100, .keep [0, 4, 5, 6, 8, 10, 12] [90100, 240]]
def nm0_spec_ParseTrace : List NStep := [.own 4 .int 90000, .keep [0, 4, 5, 6] [90000, 240]]
def an_spec_ParseTrace : Ann := ⟨[], [(17, nm1_spec_ParseTrace), (6, nm0_spec_ParseTrace)], [], []⟩
def cs_spec_ParseTrace : Cons := ⟨cl_spec_ParseTrace, [], 0, [], [], []⟩
def can1_spec_ParseTrace (parseInt34r0 : Int) (s0 : ByteArray) (splitAt15 : List ByteArray) (xi6 : Int) (xn10 : Int) (xk12 : Int) (xout4' : List Int) : St := ⟨[(0, .one (.c (.v (.string s0)))), (4, .one (.c (.ow 90100))), (5, .one (.c (.ow 240))), (6, .one (.c (.v (.int .i64 xi6)))), (8, .one (.c (.v (.int .i64 parseInt34r0)))), (10, .one (.c (.v (.int .i64 xn10)))), (12, .one (.c (.v (.int .i64 xk12))))], [(90100, .row .int xout4'), (240, .row .str splitAt15)]⟩
def can0_spec_ParseTrace (s0 : ByteArray) (splitAt15 : List ByteArray) (xi6 : Int) (xout4 : List Int) : St := ⟨[(0, .one (.c (.v (.string s0)))), (4, .one (.c (.ow 90000))), (5, .one (.c (.ow 240))), (6, .one (.c (.v (.int .i64 xi6))))], [(90000, .row .int xout4), (240, .row .str splitAt15)]⟩
def fin_spec_ParseTrace (s0 : ByteArray) (kk : AV → List A1 → Prop) : Kt := fin TT con_spec_ParseTrace Tryd.f14.results.toList [.c (.sl .int), .c .sc] [.c (.v (.string s0))] kk
def kt1_spec_ParseTrace (kf : Kt) (b0 : St → Prop) : Kt := blockK 2 (blockK 1 (seqK (evF TT cs_spec_ParseTrace 82 an_spec_ParseTrace Tryd.f14 [1, 1, 1, 1, 0, 1, 0, 0, 1, 1]) (backK nm0_spec_ParseTrace b0 (blockK 0 (seqK (evF TT cs_spec_ParseTrace 82 an_spec_ParseTrace Tryd.f14 [1, 1, 1, 1, 1]) (kf))))))
def kt0_spec_ParseTrace (kf : Kt) : Kt := blockK 0 (seqK (evF TT cs_spec_ParseTrace 82 an_spec_ParseTrace Tryd.f14 [1, 1, 1, 1, 1]) (kf))
theorem r1_spec_ParseTrace (s0 : ByteArray) (parseInt34r0 : Int) (splitAt15 : List ByteArray) (xi6 : Int) (kk : AV → List A1 → Prop) (b0 : St → Prop) (n : Nat) (xn10 : Int) (xk12 : Int) (xout4' : List Int) :
    iter (evF TT cs_spec_ParseTrace 82 an_spec_ParseTrace Tryd.f14 [1, 1, 1, 1, 0, 1, 0, 0, 1, 0, 0, 1, 1, 1, 1, 1, 1, 1, 0, 0]) nm1_spec_ParseTrace (kt1_spec_ParseTrace (fin_spec_ParseTrace s0 kk) b0) (n + 1) (can1_spec_ParseTrace parseInt34r0 s0 splitAt15 xi6 xn10 xk12 xout4') = T1_spec_ParseTrace parseInt34r0 s0 splitAt15 xi6 xn10 xk12 xout4' (fun xi6 xout4 => b0 (can0_spec_ParseTrace s0 splitAt15 xi6 xout4)) (fun xn10 xk12 xout4' => iter (evF TT cs_spec_ParseTrace 82 an_spec_ParseTrace Tryd.f14 [1, 1, 1, 1, 0, 1, 0, 0, 1, 0, 0, 1, 1, 1, 1, 1, 1, 1, 0, 0]) nm1_spec_ParseTrace (kt1_spec_ParseTrace (fin_spec_ParseTrace s0 kk) b0) n (can1_spec_ParseTrace parseInt34r0 s0 splitAt15 xi6 xn10 xk12 xout4')) := by kernel_rfl
theorem l1_spec_ParseTrace (s0 : ByteArray) (parseInt34r0 : Int) (splitAt15 : List ByteArray) (xi6 : Int) (kk : AV → List A1 → Prop) (b0 : St → Prop) : ∀ (n : Nat) (xn10 : Int) (xk12 : Int) (xout4' : List Int), iter (evF TT cs_spec_ParseTrace 82 an_spec_ParseTrace Tryd.f14 [1, 1, 1, 1, 0, 1, 0, 0, 1, 0, 0, 1, 1, 1, 1, 1, 1, 1, 0, 0]) nm1_spec_ParseTrace (kt1_spec_ParseTrace (fin_spec_ParseTrace s0 kk) b0) n (can1_spec_ParseTrace parseInt34r0 s0 splitAt15 xi6 xn10 xk12 xout4') = L1_spec_ParseTrace parseInt34r0 s0 splitAt15 xi6 (fun r0 r1 => kk (.tup [.c (.ro .int r0), .c (.v (.bool r1))]) []) (fun xi6 xout4 => b0 (can0_spec_ParseTrace s0 splitAt15 xi6 xout4)) n xn10 xk12 xout4' := by
  intro n
  induction n with
  | zero => intros; rfl
  | succ n ih =>
    intro xn10 xk12 xout4'
    rw [r1_spec_ParseTrace s0 parseInt34r0 splitAt15 xi6 kk b0 n xn10 xk12 xout4']
    have hb : (fun xn10 xk12 xout4' => iter (evF TT cs_spec_ParseTrace 82 an_spec_ParseTrace Tryd.f14 [1, 1, 1, 1, 0, 1, 0, 0, 1, 0, 0, 1, 1, 1, 1, 1, 1, 1, 0, 0]) nm1_spec_ParseTrace (kt1_spec_ParseTrace (fin_spec_ParseTrace s0 kk) b0) n (can1_spec_ParseTrace parseInt34r0 s0 splitAt15 xi6 xn10 xk12 xout4')) = L1_spec_ParseTrace parseInt34r0 s0 splitAt15 xi6 (fun r0 r1 => kk (.tup [.c (.ro .int r0), .c (.v (.bool r1))]) []) (fun xi6 xout4 => b0 (can0_spec_ParseTrace s0 splitAt15 xi6 xout4)) n := by
      funext xn10 xk12 xout4'; exact ih xn10 xk12 xout4'
    rw [hb]
    rfl
theorem r0_spec_ParseTrace (s0 : ByteArray) (splitAt15 : List ByteArray) (kk : AV → List A1 → Prop) (n : Nat) (xi6 : Int) (xout4 : List Int) :
    iter (evF TT cs_spec_ParseTrace 82 an_spec_ParseTrace Tryd.f14 [1, 1, 1, 1, 0, 1, 0, 0]) nm0_spec_ParseTrace (kt0_spec_ParseTrace (fin_spec_ParseTrace s0 kk)) (n + 1) (can0_spec_ParseTrace s0 splitAt15 xi6 xout4) = T0_spec_ParseTrace s0 splitAt15 xi6 xout4 (fun r0 r1 => kk (.tup [.c (.ro .int r0), .c (.v (.bool r1))]) []) (fun parseInt34r0 s0 splitAt15 xi6 xn10 xk12 xout4' => ∃ j, iter (evF TT cs_spec_ParseTrace 82 an_spec_ParseTrace Tryd.f14 [1, 1, 1, 1, 0, 1, 0, 0, 1, 0, 0, 1, 1, 1, 1, 1, 1, 1, 0, 0]) nm1_spec_ParseTrace (kt1_spec_ParseTrace (fin_spec_ParseTrace s0 kk) (iter (evF TT cs_spec_ParseTrace 82 an_spec_ParseTrace Tryd.f14 [1, 1, 1, 1, 0, 1, 0, 0]) nm0_spec_ParseTrace (kt0_spec_ParseTrace (fin_spec_ParseTrace s0 kk)) n)) j (can1_spec_ParseTrace parseInt34r0 s0 splitAt15 xi6 xn10 xk12 xout4')) := by kernel_rfl
theorem l0_spec_ParseTrace (s0 : ByteArray) (splitAt15 : List ByteArray) (kk : AV → List A1 → Prop) : ∀ (n : Nat) (xi6 : Int) (xout4 : List Int), iter (evF TT cs_spec_ParseTrace 82 an_spec_ParseTrace Tryd.f14 [1, 1, 1, 1, 0, 1, 0, 0]) nm0_spec_ParseTrace (kt0_spec_ParseTrace (fin_spec_ParseTrace s0 kk)) n (can0_spec_ParseTrace s0 splitAt15 xi6 xout4) = L0_spec_ParseTrace s0 splitAt15 (fun r0 r1 => kk (.tup [.c (.ro .int r0), .c (.v (.bool r1))]) []) n xi6 xout4 := by
  intro n
  induction n generalizing s0 splitAt15 with
  | zero => intros; rfl
  | succ n ih =>
    intro xi6 xout4
    rw [r0_spec_ParseTrace s0 splitAt15 kk n xi6 xout4]
    have hb : ∀ (s0 : ByteArray) (splitAt15 : List ByteArray), (fun xi6 xout4 => iter (evF TT cs_spec_ParseTrace 82 an_spec_ParseTrace Tryd.f14 [1, 1, 1, 1, 0, 1, 0, 0]) nm0_spec_ParseTrace (kt0_spec_ParseTrace (fin_spec_ParseTrace s0 kk)) n (can0_spec_ParseTrace s0 splitAt15 xi6 xout4)) = L0_spec_ParseTrace s0 splitAt15 (fun r0 r1 => kk (.tup [.c (.ro .int r0), .c (.v (.bool r1))]) []) n := by
      intro s0 splitAt15
      funext xi6 xout4; exact ih s0 splitAt15 xi6 xout4
    have hi1 : (fun parseInt34r0 s0 splitAt15 xi6 xn10 xk12 xout4' => ∃ j, iter (evF TT cs_spec_ParseTrace 82 an_spec_ParseTrace Tryd.f14 [1, 1, 1, 1, 0, 1, 0, 0, 1, 0, 0, 1, 1, 1, 1, 1, 1, 1, 0, 0]) nm1_spec_ParseTrace (kt1_spec_ParseTrace (fin_spec_ParseTrace s0 kk) (iter (evF TT cs_spec_ParseTrace 82 an_spec_ParseTrace Tryd.f14 [1, 1, 1, 1, 0, 1, 0, 0]) nm0_spec_ParseTrace (kt0_spec_ParseTrace (fin_spec_ParseTrace s0 kk)) n)) j (can1_spec_ParseTrace parseInt34r0 s0 splitAt15 xi6 xn10 xk12 xout4')) = (fun parseInt34r0 s0 splitAt15 xi6 xn10 xk12 xout4' => ∃ j, L1_spec_ParseTrace parseInt34r0 s0 splitAt15 xi6 (fun r0 r1 => kk (.tup [.c (.ro .int r0), .c (.v (.bool r1))]) []) (L0_spec_ParseTrace s0 splitAt15 (fun r0 r1 => kk (.tup [.c (.ro .int r0), .c (.v (.bool r1))]) []) n) j xn10 xk12 xout4') := by
      funext parseInt34r0 s0 splitAt15 xi6 xn10 xk12 xout4'
      refine congrArg Exists (funext fun j => ?_)
      rw [l1_spec_ParseTrace s0 parseInt34r0 splitAt15 xi6 kk (iter (evF TT cs_spec_ParseTrace 82 an_spec_ParseTrace Tryd.f14 [1, 1, 1, 1, 0, 1, 0, 0]) nm0_spec_ParseTrace (kt0_spec_ParseTrace (fin_spec_ParseTrace s0 kk)) n) j xn10 xk12 xout4']
      rw [hb]
    rw [hi1]
    rfl
theorem g_spec_ParseTrace (s0 : ByteArray) (kk : AV → List A1 → Prop) :
    ev TT cs_spec_ParseTrace 82 an_spec_ParseTrace (Tryd.f14.body.getD .skip) (st0 con_spec_ParseTrace [.c (.v (.string s0))]) (fin TT con_spec_ParseTrace Tryd.f14.results.toList [.c (.sl .int), .c .sc] [.c (.v (.string s0))] kk) = G_spec_ParseTrace s0 (fun r0 r1 => kk (.tup [.c (.ro .int r0), .c (.v (.bool r1))]) []) (fun s0 splitAt15 xi6 xout4 => ∃ j, iter (evF TT cs_spec_ParseTrace 82 an_spec_ParseTrace Tryd.f14 [1, 1, 1, 1, 0, 1, 0, 0]) nm0_spec_ParseTrace (kt0_spec_ParseTrace (fin_spec_ParseTrace s0 kk)) j (can0_spec_ParseTrace s0 splitAt15 xi6 xout4)) := by kernel_rfl
theorem e_spec_ParseTrace (s0 : ByteArray) (kk : AV → List A1 → Prop) :
    ev TT cs_spec_ParseTrace 82 an_spec_ParseTrace (Tryd.f14.body.getD .skip) (st0 con_spec_ParseTrace [.c (.v (.string s0))]) (fin TT con_spec_ParseTrace Tryd.f14.results.toList [.c (.sl .int), .c .sc] [.c (.v (.string s0))] kk) = S_spec_ParseTrace s0 (fun r0 r1 => kk (.tup [.c (.ro .int r0), .c (.v (.bool r1))]) []) := by
  rw [g_spec_ParseTrace]
  have hi0 : (fun s0 splitAt15 xi6 xout4 => ∃ j, iter (evF TT cs_spec_ParseTrace 82 an_spec_ParseTrace Tryd.f14 [1, 1, 1, 1, 0, 1, 0, 0]) nm0_spec_ParseTrace (kt0_spec_ParseTrace (fin_spec_ParseTrace s0 kk)) j (can0_spec_ParseTrace s0 splitAt15 xi6 xout4)) = (fun s0 splitAt15 xi6 xout4 => ∃ j, L0_spec_ParseTrace s0 splitAt15 (fun r0 r1 => kk (.tup [.c (.ro .int r0), .c (.v (.bool r1))]) []) j xi6 xout4) := by
    funext s0 splitAt15 xi6 xout4
    refine congrArg Exists (funext fun j => ?_)
    rw [l0_spec_ParseTrace s0 splitAt15 kk j xi6 xout4]
  rw [hi0]
  rfl
theorem clok_spec_ParseTrace : ConOK Tryd.prog cl_spec_ParseTrace := consCons h_spec_validTrace ⟨Tryd.f25, Tryd.func25, by kernel_rfl, ne_of_beq (by kernel_rfl)⟩ (consCons h_spec_formatTrace ⟨Tryd.f26, Tryd.func26, by kernel_rfl, ne_of_beq (by kernel_rfl)⟩ (consCons h_spec_splitAt ⟨Tryd.f31, Tryd.func31, by kernel_rfl, ne_of_beq (by kernel_rfl)⟩ (consCons h_spec_parseInt ⟨Tryd.f32, Tryd.func32, by kernel_rfl, ne_of_beq (by kernel_rfl)⟩ (consCons h_spec_inRange ⟨Tryd.f33, Tryd.func33, by kernel_rfl, ne_of_beq (by kernel_rfl)⟩ (consNil)))))
theorem cok_spec_ParseTrace : ConsOK Tryd.prog 82 cs_spec_ParseTrace := ⟨clok_spec_ParseTrace, inlNil, ovNil⟩
theorem i_spec_ParseTrace {vs : List A1} {kk : AV → List A1 → Prop} {motive : List A1 → Prop} (h : con_spec_ParseTrace.F vs kk) (H : ∀ (s0 : ByteArray), F_spec_ParseTrace s0 (fun r0 r1 => kk (.tup [.c (.ro .int r0), .c (.v (.bool r1))]) []) → motive [.c (.v (.string s0))]) : motive vs := by
  unfold con_spec_ParseTrace at h
  dsimp only at h
  split at h
  · exact H _ h
  · exact h.elim
theorem h_spec_ParseTrace : Holds Tryd.prog 14 con_spec_ParseTrace := by
  refine holds_of_ev (rt := [.c (.sl .int), .c .sc]) (T := TT) (Γ := cs_spec_ParseTrace) (an := an_spec_ParseTrace) (N := 82) (c := Tryd.f14.body.getD .skip) Tryd.func14 (by kernel_rfl) Tryd.ntmps14 (by decide) (by decide) mixed tabOK cok_spec_ParseTrace (by kernel_rfl) ?_
  intro vs kk _ hF
  exact i_spec_ParseTrace (motive := fun vs => Goes (ev TT cs_spec_ParseTrace 82 an_spec_ParseTrace (Tryd.f14.body.getD .skip) (st0 con_spec_ParseTrace vs) (fin TT con_spec_ParseTrace Tryd.f14.results.toList [.c (.sl .int), .c .sc] vs kk))) hF (fun s0 hF => goes_of (e_spec_ParseTrace s0 kk) (F_spec_ParseTrace_S hF))
def con_internal_stringslite_Index : Con := ⟨[.rd, .rd], true, [.c (.sc), .c (.sc)], fun vs k => match vs with
    | [.c (.v (.string s0)), .c (.v (.string s1))] => F_internal_stringslite_Index s0 s1 (fun r0 => k (.one (.c (.v (.int .i64 r0)))) [])
    | _ => False, false⟩
theorem str_listI (a : List Int) : (strOfNums a).data.toList = a.map (fun x => UInt8.ofNat x.toNat) := by rw [str_data]
theorem find_byte {c : Int} (hc : 0 ≤ c ∧ c ≤ 255) : ∀ {a : List Int}, BS a → Lib.indexByte (a.map (fun x => UInt8.ofNat x.toNat)) (UInt8.ofNat c.toNat) = findB c a
  | [], _ => rfl
  | x :: a, h => by
    have ih := find_byte hc (a := a) fun y hy => h y (List.mem_cons_of_mem _ hy)
    rw [List.map_cons, Lib.indexByte, findB, ih]
    by_cases e : x = c
    · subst e; rw [if_pos rfl, if_pos (by simp)]
    · rw [if_neg e, if_neg (fun q => e (u8_inj (h x List.mem_cons_self) hc (by simpa using q)))]
      by_cases f : findB c a = -1
      · rw [if_pos f, if_pos (by simp [f])]
      · rw [if_neg f, if_neg (by simp [f])]
theorem h_internal_stringslite_Index : Holds Tryd.prog 62 con_internal_stringslite_Index := by
  refine holds_plain rfl fun vs kk hF w vals S μ hlen hG hv => ?_
  clear hlen
  unfold con_internal_stringslite_Index at hF
  dsimp only at hF
  split at hF
  · rename_i s sep
    obtain ⟨a, c, ⟨hb, rfl⟩, ⟨hc, rfl⟩, hk⟩ := hF
    match vals, hv with
    | [y, z], hv =>
      obtain ⟨hy, hz, _⟩ := hv
      have hy : y = .string (strOfNums a) := hy
      have hz : z = .string (strOfNums [c]) := hz
      subst hy; subst hz
      refine (Tryd.stringslite_Index_one (strOfNums a) (UInt8.ofNat c.toNat) w).mono ?_
      rintro e w' ⟨rfl, rfl⟩
      refine ⟨_, _, hk, rfl, Fr.refl _ _, fun _ => rfl, fun _ _ _ => ?_⟩
      show Value.int .i64 _ = _
      rw [str_listI, find_byte hc hb]
  · exact hF.elim
def con_internal_stringslite_Cut : Con := ⟨[.rd, .rd], true, [.c (.sc), .c (.sc)], fun vs k => match vs with
    | [.c (.v (.string s0)), .c (.v (.string sep1))] => F_internal_stringslite_Cut s0 sep1 (fun r0 r1 r2 => k (.tup [.c (.v (.string r0)), .c (.v (.string r1)), .c (.v (.bool r2))]) [])
    | _ => False, false⟩
def cl_internal_stringslite_Cut : List (FuncId × Con) := [(62, con_internal_stringslite_Index)]
def an_internal_stringslite_Cut : Ann := ⟨[(3, .take 0 (.take 1 (.take 2 (.take 3 (.take 4 (.take 5 (.take 6 (.take 7 (.take 8 (.take 9 (.take 10 (.take 11 (.done)))))))))))), [])], [], [], []⟩
def cs_internal_stringslite_Cut : Cons := ⟨cl_internal_stringslite_Cut, [], 0, [], [], []⟩
def fin_internal_stringslite_Cut (s0 : ByteArray) (sep1 : ByteArray) (kk : AV → List A1 → Prop) : Kt := fin TT con_internal_stringslite_Cut Tryd.f55.results.toList [.c .sc, .c .sc, .c .sc] [.c (.v (.string s0)), .c (.v (.string sep1))] kk
theorem g_internal_stringslite_Cut (s0 : ByteArray) (sep1 : ByteArray) (kk : AV → List A1 → Prop) :
    ev TT cs_internal_stringslite_Cut 23 an_internal_stringslite_Cut (Tryd.f55.body.getD .skip) (st0 con_internal_stringslite_Cut [.c (.v (.string s0)), .c (.v (.string sep1))]) (fin TT con_internal_stringslite_Cut Tryd.f55.results.toList [.c .sc, .c .sc, .c .sc] [.c (.v (.string s0)), .c (.v (.string sep1))] kk) = G_internal_stringslite_Cut s0 sep1 (fun r0 r1 r2 => kk (.tup [.c (.v (.string r0)), .c (.v (.string r1)), .c (.v (.bool r2))]) []) := by kernel_rfl
theorem e_internal_stringslite_Cut (s0 : ByteArray) (sep1 : ByteArray) (kk : AV → List A1 → Prop) :
    ev TT cs_internal_stringslite_Cut 23 an_internal_stringslite_Cut (Tryd.f55.body.getD .skip) (st0 con_internal_stringslite_Cut [.c (.v (.string s0)), .c (.v (.string sep1))]) (fin TT con_internal_stringslite_Cut Tryd.f55.results.toList [.c .sc, .c .sc, .c .sc] [.c (.v (.string s0)), .c (.v (.string sep1))] kk) = S_internal_stringslite_Cut s0 sep1 (fun r0 r1 r2 => kk (.tup [.c (.v (.string r0)), .c (.v (.string r1)), .c (.v (.bool r2))]) []) := by
  rw [g_internal_stringslite_Cut]
  rfl
theorem clok_internal_stringslite_Cut : ConOK Tryd.prog cl_internal_stringslite_Cut := consCons h_internal_stringslite_Index ⟨Tryd.f62, Tryd.func62, by kernel_rfl, ne_of_beq (by kernel_rfl)⟩ (consNil)
theorem cok_internal_stringslite_Cut : ConsOK Tryd.prog 23 cs_internal_stringslite_Cut := ⟨clok_internal_stringslite_Cut, inlNil, ovNil⟩
theorem i_internal_stringslite_Cut {vs : List A1} {kk : AV → List A1 → Prop} {motive : List A1 → Prop} (h : con_internal_stringslite_Cut.F vs kk) (H : ∀ (s0 : ByteArray) (sep1 : ByteArray), F_internal_stringslite_Cut s0 sep1 (fun r0 r1 r2 => kk (.tup [.c (.v (.string r0)), .c (.v (.string r1)), .c (.v (.bool r2))]) []) → motive [.c (.v (.string s0)), .c (.v (.string sep1))]) : motive vs := by
  unfold con_internal_stringslite_Cut at h
  dsimp only at h
  split at h
  · exact H _ _ h
  · exact h.elim
theorem h_internal_stringslite_Cut : Holds Tryd.prog 55 con_internal_stringslite_Cut := by
  refine holds_of_ev (rt := [.c .sc, .c .sc, .c .sc]) (T := TT) (Γ := cs_internal_stringslite_Cut) (an := an_internal_stringslite_Cut) (N := 23) (c := Tryd.f55.body.getD .skip) Tryd.func55 (by kernel_rfl) Tryd.ntmps55 (by decide) (by decide) mixed tabOK cok_internal_stringslite_Cut (by kernel_rfl) ?_
  intro vs kk _ hF
  exact i_internal_stringslite_Cut (motive := fun vs => Goes (ev TT cs_internal_stringslite_Cut 23 an_internal_stringslite_Cut (Tryd.f55.body.getD .skip) (st0 con_internal_stringslite_Cut vs) (fin TT con_internal_stringslite_Cut Tryd.f55.results.toList [.c .sc, .c .sc, .c .sc] vs kk))) hF (fun s0 sep1 hF => goes_of (e_internal_stringslite_Cut s0 sep1 kk) (F_internal_stringslite_Cut_S hF))
def con_strings_Cut : Con := ⟨[.rd, .rd], true, [.c (.sc), .c (.sc)], fun vs k => match vs with
    | [.c (.v (.string s0)), .c (.v (.string sep1))] => F_strings_Cut s0 sep1 (fun r0 r1 r2 => k (.tup [.c (.v (.string r0)), .c (.v (.string r1)), .c (.v (.bool r2))]) [])
    | _ => False, false⟩
def cl_strings_Cut : List (FuncId × Con) := [(55, con_internal_stringslite_Cut)]
def an_strings_Cut : Ann := ⟨[], [], [], []⟩
def cs_strings_Cut : Cons := ⟨cl_strings_Cut, [], 0, [], [], []⟩
def fin_strings_Cut (s0 : ByteArray) (sep1 : ByteArray) (kk : AV → List A1 → Prop) : Kt := fin TT con_strings_Cut Tryd.f45.results.toList [.c .sc, .c .sc, .c .sc] [.c (.v (.string s0)), .c (.v (.string sep1))] kk
theorem g_strings_Cut (s0 : ByteArray) (sep1 : ByteArray) (kk : AV → List A1 → Prop) :
    ev TT cs_strings_Cut 13 an_strings_Cut (Tryd.f45.body.getD .skip) (st0 con_strings_Cut [.c (.v (.string s0)), .c (.v (.string sep1))]) (fin TT con_strings_Cut Tryd.f45.results.toList [.c .sc, .c .sc, .c .sc] [.c (.v (.string s0)), .c (.v (.string sep1))] kk) = G_strings_Cut s0 sep1 (fun r0 r1 r2 => kk (.tup [.c (.v (.string r0)), .c (.v (.string r1)), .c (.v (.bool r2))]) []) := by kernel_rfl
theorem e_strings_Cut (s0 : ByteArray) (sep1 : ByteArray) (kk : AV → List A1 → Prop) :
    ev TT cs_strings_Cut 13 an_strings_Cut (Tryd.f45.body.getD .skip) (st0 con_strings_Cut [.c (.v (.string s0)), .c (.v (.string sep1))]) (fin TT con_strings_Cut Tryd.f45.results.toList [.c .sc, .c .sc, .c .sc] [.c (.v (.string s0)), .c (.v (.string sep1))] kk) = S_strings_Cut s0 sep1 (fun r0 r1 r2 => kk (.tup [.c (.v (.string r0)), .c (.v (.string r1)), .c (.v (.bool r2))]) []) := by
  rw [g_strings_Cut]
  rfl
theorem clok_strings_Cut : ConOK Tryd.prog cl_strings_Cut := consCons h_internal_stringslite_Cut ⟨Tryd.f55, Tryd.func55, by kernel_rfl, ne_of_beq (by kernel_rfl)⟩ (consNil)
theorem cok_strings_Cut : ConsOK Tryd.prog 13 cs_strings_Cut := ⟨clok_strings_Cut, inlNil, ovNil⟩
theorem i_strings_Cut {vs : List A1} {kk : AV → List A1 → Prop} {motive : List A1 → Prop} (h : con_strings_Cut.F vs kk) (H : ∀ (s0 : ByteArray) (sep1 : ByteArray), F_strings_Cut s0 sep1 (fun r0 r1 r2 => kk (.tup [.c (.v (.string r0)), .c (.v (.string r1)), .c (.v (.bool r2))]) []) → motive [.c (.v (.string s0)), .c (.v (.string sep1))]) : motive vs := by
  unfold con_strings_Cut at h
  dsimp only at h
  split at h
  · exact H _ _ h
  · exact h.elim
theorem h_strings_Cut : Holds Tryd.prog 45 con_strings_Cut := by
  refine holds_of_ev (rt := [.c .sc, .c .sc, .c .sc]) (T := TT) (Γ := cs_strings_Cut) (an := an_strings_Cut) (N := 13) (c := Tryd.f45.body.getD .skip) Tryd.func45 (by kernel_rfl) Tryd.ntmps45 (by decide) (by decide) mixed tabOK cok_strings_Cut (by kernel_rfl) ?_
  intro vs kk _ hF
  exact i_strings_Cut (motive := fun vs => Goes (ev TT cs_strings_Cut 13 an_strings_Cut (Tryd.f45.body.getD .skip) (st0 con_strings_Cut vs) (fin TT con_strings_Cut Tryd.f45.results.toList [.c .sc, .c .sc, .c .sc] vs kk))) hF (fun s0 sep1 hF => goes_of (e_strings_Cut s0 sep1 kk) (F_strings_Cut_S hF))
def con_strconv_Atoi : Con := ⟨[.rd], true, [.c (.sc)], fun vs k => match vs with
    | [.c (.v (.string s0))] => F_strconv_Atoi s0 (fun r0 r1 => k (.tup [.c (.v (.int .i64 r0)), .c (.v r1)]) [])
    | _ => False, false⟩
theorem str_listA (a : List Int) : (strOfNums a).data.toList = a.map (fun x => UInt8.ofNat x.toNat) := by rw [str_data]
theorem atoi_key : ∀ n : Nat, n < 32 → Lib.atoiAll ((decB (n : Int)).map (fun x => UInt8.ofNat x.toNat)) = .ok (n : Int) := by decide +kernel
theorem atoi_is {a : List Int} {v : Int} (h : Lib.atoiAll (strOfNums a).data.toList = .ok v) (n : Int) (hn : 0 ≤ n ∧ n ≤ 31) (e : a = decB n) : v = n := by
  subst e
  obtain ⟨i, rfl⟩ : ∃ i : Nat, n = i := ⟨n.toNat, by omega⟩
  rw [str_data] at h
  have h2 := atoi_key i (by omega)
  rw [show ((decB (i : Int)).map fun n => UInt8.ofNat n.toNat).toArray.toList = (decB (i : Int)).map fun n => UInt8.ofNat n.toNat from rfl, h2] at h
  injection h with h; exact h.symm
theorem h_strconv_Atoi : Holds Tryd.prog 46 con_strconv_Atoi := by
  refine holds_plain rfl fun vs kk hF w vals S μ hlen hG hv => ?_
  clear hlen
  unfold con_strconv_Atoi at hF
  dsimp only at hF
  split at hF
  · rename_i s
    obtain ⟨a, ⟨hb, rfl, hl⟩, hk⟩ := hF
    match vals, hv with
    | [y], hv =>
      obtain ⟨hy, _⟩ := hv
      have hy : y = .string (strOfNums a) := hy
      subst hy
      have hsz : (strOfNums a).size ≤ 1000000000 := by rw [str_size]; exact hl
      obtain ⟨e3, hc3, he3⟩ := hG.err (g := 3) (by simp [globs])
      obtain ⟨e4, hc4, he4⟩ := hG.err (g := 4) (by simp [globs])
      have hin : ∀ n, n = 0 ∨ n = Lib.atoiSat (strOfNums a).data.toList → InR n := fun n h => by
        have := Lib.atoiSat_bounds (strOfNums a).data.toList
        rcases h with rfl | rfl
        · exact inR (by omega) (by omega)
        · exact inR this.1 this.2
      rcases hc : Lib.atoiAll (strOfNums a).data.toList with v | _ | _
      · refine (Tryd.strconv_Atoi_ok (strOfNums a) (by omega) v hc w).mono ?_
        rintro e w' ⟨rfl, hw⟩
        have hvb := Lib.atoiAll_bounds hc
        refine ⟨_, _, hk v .nilIface (inR hvb.1 hvb.2) (atoi_is hc) (fun e => by subst e; cases hc), rfl, ?_, fun _ => rfl, fun _ _ _ => ⟨_, rfl, rfl, rfl, trivial⟩⟩
        rcases hw with rfl | ⟨t, rfl⟩
        · exact Fr.refl _ _
        · exact Fr.of_below (Lib.bytesWorld_below _ _ _)
      · refine Calls.mono (show Calls Tryd.prog 46 #[.string (strOfNums a)] w _ from Any.strconv_Atoi_syntax Tryd.laysC172 (strOfNums a) (by omega) hc e3 w hc3 he3) ?_
        rintro e w' ⟨N, rfl, _, _, hbel⟩
        exact ⟨_, _, hk 0 _ (hin _ (.inl rfl)) (fun n hn e => (by
          have := atoi_key n.toNat (by omega)
          rw [Int.toNat_of_nonneg hn.1, ← e, ← str_listA, hc] at this; cases this)) (fun _ => rfl), rfl, Fr.of_below hbel, fun _ => rfl, fun _ _ _ => ⟨_, rfl, rfl, rfl, trivial⟩⟩
      · refine Calls.mono (show Calls Tryd.prog 46 #[.string (strOfNums a)] w _ from Any.strconv_Atoi_range Tryd.laysC172 (strOfNums a) (by omega) hc e4 w hc4 he4) ?_
        rintro e w' ⟨N, rfl, _, _, hbel⟩
        exact ⟨_, _, hk _ _ (hin _ (.inr rfl)) (fun n hn e => (by
          have := atoi_key n.toNat (by omega)
          rw [Int.toNat_of_nonneg hn.1, ← e, ← str_listA, hc] at this; cases this)) (fun e => by subst e; cases hc), rfl, Fr.of_below hbel, fun _ => rfl, fun _ _ _ => ⟨_, rfl, rfl, rfl, trivial⟩⟩
  · exact hF.elim
def con_impl_parseRun : Con := ⟨[.rd], true, [.c (.sc)], fun vs k => match vs with
    | [.c (.v (.string word0))] => F_impl_parseRun word0 (fun r0 r1 => k (.tup [.c (.v (.int .i64 r0)), .c (.v (.int .i64 r1))]) [])
    | _ => False, false⟩
def cl_impl_parseRun : List (FuncId × Con) := [(45, con_strings_Cut), (46, con_strconv_Atoi)]
def an_impl_parseRun : Ann := ⟨[], [], [], []⟩
def cs_impl_parseRun : Cons := ⟨cl_impl_parseRun, [], 0, [], [], []⟩
def fin_impl_parseRun (word0 : ByteArray) (kk : AV → List A1 → Prop) : Kt := fin TT con_impl_parseRun Tryd.f28.results.toList [.c .sc, .c .sc] [.c (.v (.string word0))] kk
theorem g_impl_parseRun (word0 : ByteArray) (kk : AV → List A1 → Prop) :
    ev TT cs_impl_parseRun 31 an_impl_parseRun (Tryd.f28.body.getD .skip) (st0 con_impl_parseRun [.c (.v (.string word0))]) (fin TT con_impl_parseRun Tryd.f28.results.toList [.c .sc, .c .sc] [.c (.v (.string word0))] kk) = G_impl_parseRun word0 (fun r0 r1 => kk (.tup [.c (.v (.int .i64 r0)), .c (.v (.int .i64 r1))]) []) := by kernel_rfl
theorem e_impl_parseRun (word0 : ByteArray) (kk : AV → List A1 → Prop) :
    ev TT cs_impl_parseRun 31 an_impl_parseRun (Tryd.f28.body.getD .skip) (st0 con_impl_parseRun [.c (.v (.string word0))]) (fin TT con_impl_parseRun Tryd.f28.results.toList [.c .sc, .c .sc] [.c (.v (.string word0))] kk) = S_impl_parseRun word0 (fun r0 r1 => kk (.tup [.c (.v (.int .i64 r0)), .c (.v (.int .i64 r1))]) []) := by
  rw [g_impl_parseRun]
  rfl
theorem clok_impl_parseRun : ConOK Tryd.prog cl_impl_parseRun := consCons h_strings_Cut ⟨Tryd.f45, Tryd.func45, by kernel_rfl, ne_of_beq (by kernel_rfl)⟩ (consCons h_strconv_Atoi ⟨Tryd.f46, Tryd.func46, by kernel_rfl, ne_of_beq (by kernel_rfl)⟩ (consNil))
theorem cok_impl_parseRun : ConsOK Tryd.prog 31 cs_impl_parseRun := ⟨clok_impl_parseRun, inlNil, ovNil⟩
theorem i_impl_parseRun {vs : List A1} {kk : AV → List A1 → Prop} {motive : List A1 → Prop} (h : con_impl_parseRun.F vs kk) (H : ∀ (word0 : ByteArray), F_impl_parseRun word0 (fun r0 r1 => kk (.tup [.c (.v (.int .i64 r0)), .c (.v (.int .i64 r1))]) []) → motive [.c (.v (.string word0))]) : motive vs := by
  unfold con_impl_parseRun at h
  dsimp only at h
  split at h
  · exact H _ h
  · exact h.elim
theorem h_impl_parseRun : Holds Tryd.prog 28 con_impl_parseRun := by
  refine holds_of_ev (rt := [.c .sc, .c .sc]) (T := TT) (Γ := cs_impl_parseRun) (an := an_impl_parseRun) (N := 31) (c := Tryd.f28.body.getD .skip) Tryd.func28 (by kernel_rfl) Tryd.ntmps28 (by decide) (by decide) mixed tabOK cok_impl_parseRun (by kernel_rfl) ?_
  intro vs kk _ hF
  exact i_impl_parseRun (motive := fun vs => Goes (ev TT cs_impl_parseRun 31 an_impl_parseRun (Tryd.f28.body.getD .skip) (st0 con_impl_parseRun vs) (fin TT con_impl_parseRun Tryd.f28.results.toList [.c .sc, .c .sc] vs kk))) hF (fun word0 hF => goes_of (e_impl_parseRun word0 kk) (F_impl_parseRun_S hF))
def con_impl_validKey : Con := ⟨[.rd], true, [.c (.sc)], fun vs k => match vs with
    | [.c (.v (.int .i64 key0))] => F_impl_validKey key0 (fun r0 => k (.one (.c (.v (.bool r0)))) [])
    | _ => False, false⟩
def cl_impl_validKey : List (FuncId × Con) := []
def an_impl_validKey : Ann := ⟨[], [], [], []⟩
def cs_impl_validKey : Cons := ⟨cl_impl_validKey, [], 0, [], [], []⟩
def fin_impl_validKey (key0 : Int) (kk : AV → List A1 → Prop) : Kt := fin TT con_impl_validKey Tryd.f34.results.toList [.c .sc] [.c (.v (.int .i64 key0))] kk
theorem g_impl_validKey (key0 : Int) (kk : AV → List A1 → Prop) :
    ev TT cs_impl_validKey 9 an_impl_validKey (Tryd.f34.body.getD .skip) (st0 con_impl_validKey [.c (.v (.int .i64 key0))]) (fin TT con_impl_validKey Tryd.f34.results.toList [.c .sc] [.c (.v (.int .i64 key0))] kk) = G_impl_validKey key0 (fun r0 => kk (.one (.c (.v (.bool r0)))) []) := by kernel_rfl
theorem e_impl_validKey (key0 : Int) (kk : AV → List A1 → Prop) :
    ev TT cs_impl_validKey 9 an_impl_validKey (Tryd.f34.body.getD .skip) (st0 con_impl_validKey [.c (.v (.int .i64 key0))]) (fin TT con_impl_validKey Tryd.f34.results.toList [.c .sc] [.c (.v (.int .i64 key0))] kk) = S_impl_validKey key0 (fun r0 => kk (.one (.c (.v (.bool r0)))) []) := by
  rw [g_impl_validKey]
  rfl
theorem clok_impl_validKey : ConOK Tryd.prog cl_impl_validKey := consNil
theorem cok_impl_validKey : ConsOK Tryd.prog 9 cs_impl_validKey := ⟨clok_impl_validKey, inlNil, ovNil⟩
theorem i_impl_validKey {vs : List A1} {kk : AV → List A1 → Prop} {motive : List A1 → Prop} (h : con_impl_validKey.F vs kk) (H : ∀ (key0 : Int), F_impl_validKey key0 (fun r0 => kk (.one (.c (.v (.bool r0)))) []) → motive [.c (.v (.int .i64 key0))]) : motive vs := by
  unfold con_impl_validKey at h
  dsimp only at h
  split at h
  · exact H _ h
  · exact h.elim
theorem h_impl_validKey : Holds Tryd.prog 34 con_impl_validKey := by
  refine holds_of_ev (rt := [.c .sc]) (T := TT) (Γ := cs_impl_validKey) (an := an_impl_validKey) (N := 9) (c := Tryd.f34.body.getD .skip) Tryd.func34 (by kernel_rfl) Tryd.ntmps34 (by decide) (by decide) mixed tabOK cok_impl_validKey (by kernel_rfl) ?_
  intro vs kk _ hF
  exact i_impl_validKey (motive := fun vs => Goes (ev TT cs_impl_validKey 9 an_impl_validKey (Tryd.f34.body.getD .skip) (st0 con_impl_validKey vs) (fin TT con_impl_validKey Tryd.f34.results.toList [.c .sc] vs kk))) hF (fun key0 hF => goes_of (e_impl_validKey key0 kk) (F_impl_validKey_S hF))
def con_impl_ValidTrace : Con := ⟨[.rd], true, [.c (.sl .int)], fun vs k => match vs with
    | [.c (.ro .int t0)] => F_impl_ValidTrace t0 (fun r0 => k (.one (.c (.v (.bool r0)))) [])
    | _ => False, false⟩
def cl_impl_ValidTrace : List (FuncId × Con) := [(34, con_impl_validKey)]
def nm0_impl_ValidTrace : List NStep := [.keep [8, 9, 10] []]
def an_impl_ValidTrace : Ann := ⟨[], [(4, nm0_impl_ValidTrace)], [], []⟩
def cs_impl_ValidTrace : Cons := ⟨cl_impl_ValidTrace, [], 0, [], [], []⟩
def can0_impl_ValidTrace (t0 : List Int) (xt9 : Int) (xt10 : Int) : St := ⟨[(8, .one (.c (.ro .int t0))), (9, .one (.c (.v (.int .i64 xt9)))), (10, .one (.c (.v (.int .i64 xt10))))], []⟩
def fin_impl_ValidTrace (t0 : List Int) (kk : AV → List A1 → Prop) : Kt := fin TT con_impl_ValidTrace Tryd.f15.results.toList [.c .sc] [.c (.ro .int t0)] kk
def kt0_impl_ValidTrace (kf : Kt) : Kt := blockK 0 (seqK (evF TT cs_impl_ValidTrace 18 an_impl_ValidTrace Tryd.f15 [1, 1, 1]) (kf))
theorem r0_impl_ValidTrace (t0 : List Int) (xt9 : Int) (kk : AV → List A1 → Prop) (n : Nat) (xt10 : Int) :
    iter (evF TT cs_impl_ValidTrace 18 an_impl_ValidTrace Tryd.f15 [1, 1, 0, 1, 0, 0]) nm0_impl_ValidTrace (kt0_impl_ValidTrace (fin_impl_ValidTrace t0 kk)) (n + 1) (can0_impl_ValidTrace t0 xt9 xt10) = T0_impl_ValidTrace t0 xt9 xt10 (fun r0 => kk (.one (.c (.v (.bool r0)))) []) (fun xt10 => iter (evF TT cs_impl_ValidTrace 18 an_impl_ValidTrace Tryd.f15 [1, 1, 0, 1, 0, 0]) nm0_impl_ValidTrace (kt0_impl_ValidTrace (fin_impl_ValidTrace t0 kk)) n (can0_impl_ValidTrace t0 xt9 xt10)) := by kernel_rfl
theorem l0_impl_ValidTrace (t0 : List Int) (xt9 : Int) (kk : AV → List A1 → Prop) : ∀ (n : Nat) (xt10 : Int), iter (evF TT cs_impl_ValidTrace 18 an_impl_ValidTrace Tryd.f15 [1, 1, 0, 1, 0, 0]) nm0_impl_ValidTrace (kt0_impl_ValidTrace (fin_impl_ValidTrace t0 kk)) n (can0_impl_ValidTrace t0 xt9 xt10) = L0_impl_ValidTrace t0 xt9 (fun r0 => kk (.one (.c (.v (.bool r0)))) []) n xt10 := by
  intro n
  induction n with
  | zero => intros; rfl
  | succ n ih =>
    intro xt10
    rw [r0_impl_ValidTrace t0 xt9 kk n xt10]
    have hb : (fun xt10 => iter (evF TT cs_impl_ValidTrace 18 an_impl_ValidTrace Tryd.f15 [1, 1, 0, 1, 0, 0]) nm0_impl_ValidTrace (kt0_impl_ValidTrace (fin_impl_ValidTrace t0 kk)) n (can0_impl_ValidTrace t0 xt9 xt10)) = L0_impl_ValidTrace t0 xt9 (fun r0 => kk (.one (.c (.v (.bool r0)))) []) n := by
      funext xt10; exact ih xt10
    rw [hb]
    rfl
theorem g_impl_ValidTrace (t0 : List Int) (kk : AV → List A1 → Prop) :
    ev TT cs_impl_ValidTrace 18 an_impl_ValidTrace (Tryd.f15.body.getD .skip) (st0 con_impl_ValidTrace [.c (.ro .int t0)]) (fin TT con_impl_ValidTrace Tryd.f15.results.toList [.c .sc] [.c (.ro .int t0)] kk) = G_impl_ValidTrace t0 (fun r0 => kk (.one (.c (.v (.bool r0)))) []) (fun t0 xt9 xt10 => ∃ j, iter (evF TT cs_impl_ValidTrace 18 an_impl_ValidTrace Tryd.f15 [1, 1, 0, 1, 0, 0]) nm0_impl_ValidTrace (kt0_impl_ValidTrace (fin_impl_ValidTrace t0 kk)) j (can0_impl_ValidTrace t0 xt9 xt10)) := by kernel_rfl
theorem e_impl_ValidTrace (t0 : List Int) (kk : AV → List A1 → Prop) :
    ev TT cs_impl_ValidTrace 18 an_impl_ValidTrace (Tryd.f15.body.getD .skip) (st0 con_impl_ValidTrace [.c (.ro .int t0)]) (fin TT con_impl_ValidTrace Tryd.f15.results.toList [.c .sc] [.c (.ro .int t0)] kk) = S_impl_ValidTrace t0 (fun r0 => kk (.one (.c (.v (.bool r0)))) []) := by
  rw [g_impl_ValidTrace]
  have hi0 : (fun t0 xt9 xt10 => ∃ j, iter (evF TT cs_impl_ValidTrace 18 an_impl_ValidTrace Tryd.f15 [1, 1, 0, 1, 0, 0]) nm0_impl_ValidTrace (kt0_impl_ValidTrace (fin_impl_ValidTrace t0 kk)) j (can0_impl_ValidTrace t0 xt9 xt10)) = (fun t0 xt9 xt10 => ∃ j, L0_impl_ValidTrace t0 xt9 (fun r0 => kk (.one (.c (.v (.bool r0)))) []) j xt10) := by
    funext t0 xt9 xt10
    refine congrArg Exists (funext fun j => ?_)
    rw [l0_impl_ValidTrace t0 xt9 kk j xt10]
  rw [hi0]
  rfl
theorem clok_impl_ValidTrace : ConOK Tryd.prog cl_impl_ValidTrace := consCons h_impl_validKey ⟨Tryd.f34, Tryd.func34, by kernel_rfl, ne_of_beq (by kernel_rfl)⟩ (consNil)
theorem cok_impl_ValidTrace : ConsOK Tryd.prog 18 cs_impl_ValidTrace := ⟨clok_impl_ValidTrace, inlNil, ovNil⟩
theorem i_impl_ValidTrace {vs : List A1} {kk : AV → List A1 → Prop} {motive : List A1 → Prop} (h : con_impl_ValidTrace.F vs kk) (H : ∀ (t0 : List Int), F_impl_ValidTrace t0 (fun r0 => kk (.one (.c (.v (.bool r0)))) []) → motive [.c (.ro .int t0)]) : motive vs := by
  unfold con_impl_ValidTrace at h
  dsimp only at h
  split at h
  · exact H _ h
  · exact h.elim
theorem h_impl_ValidTrace : Holds Tryd.prog 15 con_impl_ValidTrace := by
  refine holds_of_ev (rt := [.c .sc]) (T := TT) (Γ := cs_impl_ValidTrace) (an := an_impl_ValidTrace) (N := 18) (c := Tryd.f15.body.getD .skip) Tryd.func15 (by kernel_rfl) Tryd.ntmps15 (by decide) (by decide) mixed tabOK cok_impl_ValidTrace (by kernel_rfl) ?_
  intro vs kk _ hF
  exact i_impl_ValidTrace (motive := fun vs => Goes (ev TT cs_impl_ValidTrace 18 an_impl_ValidTrace (Tryd.f15.body.getD .skip) (st0 con_impl_ValidTrace vs) (fin TT con_impl_ValidTrace Tryd.f15.results.toList [.c .sc] vs kk))) hF (fun t0 hF => goes_of (e_impl_ValidTrace t0 kk) (F_impl_ValidTrace_S hF))
def con_impl_firstRun : Con := ⟨[.rd], true, [.c (.sl .int)], fun vs k => match vs with
    | [.c (.ro .int t0)] => F_impl_firstRun t0 (fun r0 => k (.one (.c (.v (.int .i64 r0)))) [])
    | _ => False, false⟩
def cl_impl_firstRun : List (FuncId × Con) := []
def nm0_impl_firstRun : List NStep := [.keep [0, 5, 6, 7] []]
def an_impl_firstRun : Ann := ⟨[], [(2, nm0_impl_firstRun)], [], []⟩
def cs_impl_firstRun : Cons := ⟨cl_impl_firstRun, [], 0, [], [], []⟩
def can0_impl_firstRun (t0 : List Int) (xt6 : Int) (xt7 : Int) : St := ⟨[(0, .one (.c (.ro .int t0))), (5, .one (.c (.ro .int t0))), (6, .one (.c (.v (.int .i64 xt6)))), (7, .one (.c (.v (.int .i64 xt7))))], []⟩
def fin_impl_firstRun (t0 : List Int) (kk : AV → List A1 → Prop) : Kt := fin TT con_impl_firstRun Tryd.f22.results.toList [.c .sc] [.c (.ro .int t0)] kk
def kt0_impl_firstRun (kf : Kt) : Kt := blockK 0 (seqK (evF TT cs_impl_firstRun 21 an_impl_firstRun Tryd.f22 [1, 1]) (kf))
theorem r0_impl_firstRun (t0 : List Int) (xt6 : Int) (kk : AV → List A1 → Prop) (n : Nat) (xt7 : Int) :
    iter (evF TT cs_impl_firstRun 21 an_impl_firstRun Tryd.f22 [1, 0, 1, 0, 0]) nm0_impl_firstRun (kt0_impl_firstRun (fin_impl_firstRun t0 kk)) (n + 1) (can0_impl_firstRun t0 xt6 xt7) = T0_impl_firstRun t0 xt6 xt7 (fun r0 => kk (.one (.c (.v (.int .i64 r0)))) []) (fun xt7 => iter (evF TT cs_impl_firstRun 21 an_impl_firstRun Tryd.f22 [1, 0, 1, 0, 0]) nm0_impl_firstRun (kt0_impl_firstRun (fin_impl_firstRun t0 kk)) n (can0_impl_firstRun t0 xt6 xt7)) := by kernel_rfl
theorem l0_impl_firstRun (t0 : List Int) (xt6 : Int) (kk : AV → List A1 → Prop) : ∀ (n : Nat) (xt7 : Int), iter (evF TT cs_impl_firstRun 21 an_impl_firstRun Tryd.f22 [1, 0, 1, 0, 0]) nm0_impl_firstRun (kt0_impl_firstRun (fin_impl_firstRun t0 kk)) n (can0_impl_firstRun t0 xt6 xt7) = L0_impl_firstRun t0 xt6 (fun r0 => kk (.one (.c (.v (.int .i64 r0)))) []) n xt7 := by
  intro n
  induction n with
  | zero => intros; rfl
  | succ n ih =>
    intro xt7
    rw [r0_impl_firstRun t0 xt6 kk n xt7]
    have hb : (fun xt7 => iter (evF TT cs_impl_firstRun 21 an_impl_firstRun Tryd.f22 [1, 0, 1, 0, 0]) nm0_impl_firstRun (kt0_impl_firstRun (fin_impl_firstRun t0 kk)) n (can0_impl_firstRun t0 xt6 xt7)) = L0_impl_firstRun t0 xt6 (fun r0 => kk (.one (.c (.v (.int .i64 r0)))) []) n := by
      funext xt7; exact ih xt7
    rw [hb]
    rfl
theorem g_impl_firstRun (t0 : List Int) (kk : AV → List A1 → Prop) :
    ev TT cs_impl_firstRun 21 an_impl_firstRun (Tryd.f22.body.getD .skip) (st0 con_impl_firstRun [.c (.ro .int t0)]) (fin TT con_impl_firstRun Tryd.f22.results.toList [.c .sc] [.c (.ro .int t0)] kk) = G_impl_firstRun t0 (fun t0 xt6 xt7 => ∃ j, iter (evF TT cs_impl_firstRun 21 an_impl_firstRun Tryd.f22 [1, 0, 1, 0, 0]) nm0_impl_firstRun (kt0_impl_firstRun (fin_impl_firstRun t0 kk)) j (can0_impl_firstRun t0 xt6 xt7)) := by kernel_rfl
theorem e_impl_firstRun (t0 : List Int) (kk : AV → List A1 → Prop) :
    ev TT cs_impl_firstRun 21 an_impl_firstRun (Tryd.f22.body.getD .skip) (st0 con_impl_firstRun [.c (.ro .int t0)]) (fin TT con_impl_firstRun Tryd.f22.results.toList [.c .sc] [.c (.ro .int t0)] kk) = S_impl_firstRun t0 (fun r0 => kk (.one (.c (.v (.int .i64 r0)))) []) := by
  rw [g_impl_firstRun]
  have hi0 : (fun t0 xt6 xt7 => ∃ j, iter (evF TT cs_impl_firstRun 21 an_impl_firstRun Tryd.f22 [1, 0, 1, 0, 0]) nm0_impl_firstRun (kt0_impl_firstRun (fin_impl_firstRun t0 kk)) j (can0_impl_firstRun t0 xt6 xt7)) = (fun t0 xt6 xt7 => ∃ j, L0_impl_firstRun t0 xt6 (fun r0 => kk (.one (.c (.v (.int .i64 r0)))) []) j xt7) := by
    funext t0 xt6 xt7
    refine congrArg Exists (funext fun j => ?_)
    rw [l0_impl_firstRun t0 xt6 kk j xt7]
  rw [hi0]
  rfl
theorem clok_impl_firstRun : ConOK Tryd.prog cl_impl_firstRun := consNil
theorem cok_impl_firstRun : ConsOK Tryd.prog 21 cs_impl_firstRun := ⟨clok_impl_firstRun, inlNil, ovNil⟩
theorem i_impl_firstRun {vs : List A1} {kk : AV → List A1 → Prop} {motive : List A1 → Prop} (h : con_impl_firstRun.F vs kk) (H : ∀ (t0 : List Int), F_impl_firstRun t0 (fun r0 => kk (.one (.c (.v (.int .i64 r0)))) []) → motive [.c (.ro .int t0)]) : motive vs := by
  unfold con_impl_firstRun at h
  dsimp only at h
  split at h
  · exact H _ h
  · exact h.elim
theorem h_impl_firstRun : Holds Tryd.prog 22 con_impl_firstRun := by
  refine holds_of_ev (rt := [.c .sc]) (T := TT) (Γ := cs_impl_firstRun) (an := an_impl_firstRun) (N := 21) (c := Tryd.f22.body.getD .skip) Tryd.func22 (by kernel_rfl) Tryd.ntmps22 (by decide) (by decide) mixed tabOK cok_impl_firstRun (by kernel_rfl) ?_
  intro vs kk _ hF
  exact i_impl_firstRun (motive := fun vs => Goes (ev TT cs_impl_firstRun 21 an_impl_firstRun (Tryd.f22.body.getD .skip) (st0 con_impl_firstRun vs) (fin TT con_impl_firstRun Tryd.f22.results.toList [.c .sc] vs kk))) hF (fun t0 hF => goes_of (e_impl_firstRun t0 kk) (F_impl_firstRun_S hF))
def con_strconv_Itoa : Con := ⟨[.rd], true, [.c (.sc)], fun vs k => match vs with
    | [.c (.v (.int .i64 n0))] => F_strconv_Itoa n0 (fun r0 => k (.one (.c (.v (.string r0)))) [])
    | _ => False, false⟩
theorem dig_dec : ∀ (f n : Nat), n < f → n ≤ 9999 → Lib.decDigits n = (decB (n : Int)).map (fun x => UInt8.ofNat x.toNat)
  | 0, n, h, _ => by omega
  | f + 1, n, h, h2 => by
    rw [Lib.decDigits]
    split
    · rename_i c
      rw [decB_small (by omega) (by omega), List.map_singleton, show (48 + (n : Int)).toNat = 48 + n by omega]
    · rename_i c
      rw [decB_big (by omega) (by omega), List.map_append, List.map_singleton, show (n : Int) / 10 = ((n / 10 : Nat) : Int) by omega, ← dig_dec f (n / 10) (by omega) (by omega)]
      congr 3
theorem h_strconv_Itoa : Holds Tryd.prog 37 con_strconv_Itoa := by
  refine holds_plain rfl fun vs kk hF w vals S μ hlen hG hv => ?_
  clear hlen
  unfold con_strconv_Itoa at hF
  dsimp only at hF
  split at hF
  · rename_i n
    obtain ⟨⟨h0, h1⟩, hk⟩ := hF
    obtain ⟨i, rfl⟩ : ∃ i : Nat, n = i := ⟨n.toNat, by omega⟩
    match vals, hv with
    | [y], hv =>
      obtain ⟨hy, _⟩ := hv
      have hy : y = .int .i64 (i : Int) := hy
      subst hy
      refine (Tryd.strconv_Itoa_small i (by omega) w).mono ?_
      rintro e w' ⟨rfl, rfl⟩
      refine ⟨_, _, hk, ?_, Fr.refl _ _, fun _ => rfl, fun _ _ _ => rfl⟩
      rw [dig_dec (i + 1) i (by omega) (by omega)]; rfl
  · exact hF.elim
def con_impl_runWord : Con := ⟨[.rd, .rd], true, [.c (.sc), .c (.sc)], fun vs k => match vs with
    | [.c (.v (.int .i64 key0)), .c (.v (.int .i64 count1))] => F_impl_runWord key0 count1 (fun r0 => k (.one (.c (.v (.string r0)))) [])
    | _ => False, false⟩
def cl_impl_runWord : List (FuncId × Con) := [(37, con_strconv_Itoa)]
def an_impl_runWord : Ann := ⟨[], [], [], []⟩
def cs_impl_runWord : Cons := ⟨cl_impl_runWord, [], 0, [], [], []⟩
def fin_impl_runWord (key0 : Int) (count1 : Int) (kk : AV → List A1 → Prop) : Kt := fin TT con_impl_runWord Tryd.f23.results.toList [.c .sc] [.c (.v (.int .i64 key0)), .c (.v (.int .i64 count1))] kk
theorem g_impl_runWord (key0 : Int) (count1 : Int) (kk : AV → List A1 → Prop) :
    ev TT cs_impl_runWord 15 an_impl_runWord (Tryd.f23.body.getD .skip) (st0 con_impl_runWord [.c (.v (.int .i64 key0)), .c (.v (.int .i64 count1))]) (fin TT con_impl_runWord Tryd.f23.results.toList [.c .sc] [.c (.v (.int .i64 key0)), .c (.v (.int .i64 count1))] kk) = G_impl_runWord key0 count1 (fun r0 => kk (.one (.c (.v (.string r0)))) []) := by kernel_rfl
theorem e_impl_runWord (key0 : Int) (count1 : Int) (kk : AV → List A1 → Prop) :
    ev TT cs_impl_runWord 15 an_impl_runWord (Tryd.f23.body.getD .skip) (st0 con_impl_runWord [.c (.v (.int .i64 key0)), .c (.v (.int .i64 count1))]) (fin TT con_impl_runWord Tryd.f23.results.toList [.c .sc] [.c (.v (.int .i64 key0)), .c (.v (.int .i64 count1))] kk) = S_impl_runWord key0 count1 (fun r0 => kk (.one (.c (.v (.string r0)))) []) := by
  rw [g_impl_runWord]
  rfl
theorem clok_impl_runWord : ConOK Tryd.prog cl_impl_runWord := consCons h_strconv_Itoa ⟨Tryd.f37, Tryd.func37, by kernel_rfl, ne_of_beq (by kernel_rfl)⟩ (consNil)
theorem cok_impl_runWord : ConsOK Tryd.prog 15 cs_impl_runWord := ⟨clok_impl_runWord, inlNil, ovNil⟩
theorem i_impl_runWord {vs : List A1} {kk : AV → List A1 → Prop} {motive : List A1 → Prop} (h : con_impl_runWord.F vs kk) (H : ∀ (key0 : Int) (count1 : Int), F_impl_runWord key0 count1 (fun r0 => kk (.one (.c (.v (.string r0)))) []) → motive [.c (.v (.int .i64 key0)), .c (.v (.int .i64 count1))]) : motive vs := by
  unfold con_impl_runWord at h
  dsimp only at h
  split at h
  · exact H _ _ h
  · exact h.elim
theorem h_impl_runWord : Holds Tryd.prog 23 con_impl_runWord := by
  refine holds_of_ev (rt := [.c .sc]) (T := TT) (Γ := cs_impl_runWord) (an := an_impl_runWord) (N := 15) (c := Tryd.f23.body.getD .skip) Tryd.func23 (by kernel_rfl) Tryd.ntmps23 (by decide) (by decide) mixed tabOK cok_impl_runWord (by kernel_rfl) ?_
  intro vs kk _ hF
  exact i_impl_runWord (motive := fun vs => Goes (ev TT cs_impl_runWord 15 an_impl_runWord (Tryd.f23.body.getD .skip) (st0 con_impl_runWord vs) (fin TT con_impl_runWord Tryd.f23.results.toList [.c .sc] vs kk))) hF (fun key0 count1 hF => goes_of (e_impl_runWord key0 count1 kk) (F_impl_runWord_S hF))
def con_strings_Join : Con := ⟨[.rd, .rd], true, [.c (.sl .str), .c (.sc)], fun vs k => match vs with
    | [.c (.ro .str xs0), .c (.v (.string s1))] => F_strings_Join xs0 s1 (fun r0 => k (.one (.c (.v (.string r0)))) [])
    | _ => False, false⟩
theorem str_list (a : List Int) : (strOfNums a).data.toList = a.map (fun x => UInt8.ofNat x.toNat) := by rw [str_data]
theorem join_list (s : List Int) : ∀ W : List (List Int), Lib.join ((W.map strOfNums).map (·.data.toList)) (strOfNums s).data.toList = (joinB s W).map (fun x => UInt8.ofNat x.toNat)
  | [] => rfl
  | [x] => by rw [List.map_singleton, List.map_singleton, Lib.join_one, str_list]; rfl
  | x :: y :: r => by
    have ih := join_list s (y :: r)
    rw [List.map_cons, List.map_cons] at ih
    rw [Lib.join_cons] at ih
    rw [List.map_cons, List.map_cons, Lib.join_cons, List.map_cons, List.map_cons, joinB, List.map_append, List.map_append, ← ih, Lib.joinTail, List.map_cons, List.flatten_cons, ← Lib.joinTail, str_list x, str_list s]
    simp only [List.append_assoc]
theorem h_strings_Join : Holds Tryd.prog 24 con_strings_Join := by
  refine holds_plain rfl fun vs kk hF w vals S μ hlen hG hv => ?_
  clear hlen
  unfold con_strings_Join at hF
  dsimp only at hF
  split at hF
  · rename_i xs sep
    obtain ⟨W, s, ⟨rfl, rfl, hW, hJ⟩, hk⟩ := hF
    match vals, hv with
    | [y, z], hv =>
      obtain ⟨hy, hz, _⟩ := hv
      have hz : z = .string (strOfNums s) := hz
      subst hz
      obtain ⟨A, n, c, rfl, ⟨rfl, hn1, hn2, hro⟩, _⟩ := hy
      have out : ∀ v, v = .string (strOfNums (joinB s W)) → ∃ r v', kk r [] ∧ (Ending.returned v = .returned v') ∧ (∀ kd, instR con_strings_Join.fresh kd r = (r, [])) ∧ ∀ S μ w', RA S μ w' r v' := fun v e => ⟨_, v, hk, rfl, fun _ => rfl, fun _ _ _ => e⟩
      cases W with
      | nil =>
        refine (Tryd.strings_Join_none A c (strOfNums s) w).mono ?_
        rintro e w' ⟨rfl, rfl⟩
        obtain ⟨r, v', h1, h2, h3, h4⟩ := out (.string ⟨#[]⟩) rfl
        exact ⟨r, v', h1, h2, Fr.refl _ _, h3, h4⟩
      | cons x r =>
        rcases hro with ⟨_, hc⟩ | ⟨a, rfl, hcell⟩
        · subst hc; simp at hn1
        · obtain ⟨b, o, e, hc2⟩ := hcell (by simp)
          clear hcell
          subst e
          have hcell : ∀ (j : Nat) x', ((x :: r).map strOfNums)[j]? = some x' → w.cell? ⟨b, o + j, none⟩ = some (.string x') := fun j x' hx => by
            have := hc2 j x' hx 0 (.string x') rfl
            simpa [Ty.sz] using this
          have hb : b < w.heap.size := cell_lt (hcell 0 (strOfNums x) rfl)
          refine (Tryd.strings_Join b o c ((x :: r).map strOfNums) (strOfNums s) w hcell hb (by rw [List.length_map]; omega) hn1 (by rw [join_list, List.length_map]; omega)).mono ?_
          rintro e w' ⟨rfl, hbel⟩
          obtain ⟨r', v', h1, h2, h3, h4⟩ := out (.string ⟨(Lib.join (((x :: r).map strOfNums).map (·.data.toList)) (strOfNums s).data.toList).toArray⟩) (by rw [join_list]; rfl)
          exact ⟨r', v', h1, h2, Fr.of_below hbel, h3, h4⟩
  · exact hF.elim
def con_impl_FormatTrace : Con := ⟨[.rd], true, [.c (.sl .int)], fun vs k => match vs with
    | [.c (.ro .int t0)] => F_impl_FormatTrace t0 (fun r0 => k (.one (.c (.v (.string r0)))) [])
    | _ => False, false⟩
def cl_impl_FormatTrace : List (FuncId × Con) := [(15, con_impl_ValidTrace), (22, con_impl_firstRun), (23, con_impl_runWord), (24, con_strings_Join)]
def nm0_impl_FormatTrace : List NStep := [.own 3 .str 90000, .keep [3, 4] [90000]]
def an_impl_FormatTrace : Ann := ⟨[], [(5, nm0_impl_FormatTrace)], [], []⟩
def cs_impl_FormatTrace : Cons := ⟨cl_impl_FormatTrace, [], 0, [], [], []⟩
def can0_impl_FormatTrace (xleft4 : List Int) (xwords3 : List ByteArray) : St := ⟨[(3, .one (.c (.ow 90000))), (4, .one (.c (.ro .int xleft4)))], [(90000, .row .str xwords3)]⟩
def fin_impl_FormatTrace (t0 : List Int) (kk : AV → List A1 → Prop) : Kt := fin TT con_impl_FormatTrace Tryd.f9.results.toList [.c .sc] [.c (.ro .int t0)] kk
def kt0_impl_FormatTrace (kf : Kt) : Kt := blockK 0 (seqK (evF TT cs_impl_FormatTrace 29 an_impl_FormatTrace Tryd.f9 [1, 1, 1, 1]) (kf))
theorem r0_impl_FormatTrace (t0 : List Int) (kk : AV → List A1 → Prop) (n : Nat) (xleft4 : List Int) (xwords3 : List ByteArray) :
    iter (evF TT cs_impl_FormatTrace 29 an_impl_FormatTrace Tryd.f9 [1, 1, 1, 0, 1, 0, 0]) nm0_impl_FormatTrace (kt0_impl_FormatTrace (fin_impl_FormatTrace t0 kk)) (n + 1) (can0_impl_FormatTrace xleft4 xwords3) = T0_impl_FormatTrace xleft4 xwords3 (fun r0 => kk (.one (.c (.v (.string r0)))) []) (fun xleft4 xwords3 => iter (evF TT cs_impl_FormatTrace 29 an_impl_FormatTrace Tryd.f9 [1, 1, 1, 0, 1, 0, 0]) nm0_impl_FormatTrace (kt0_impl_FormatTrace (fin_impl_FormatTrace t0 kk)) n (can0_impl_FormatTrace xleft4 xwords3)) := by kernel_rfl
theorem l0_impl_FormatTrace (t0 : List Int) (kk : AV → List A1 → Prop) : ∀ (n : Nat) (xleft4 : List Int) (xwords3 : List ByteArray), iter (evF TT cs_impl_FormatTrace 29 an_impl_FormatTrace Tryd.f9 [1, 1, 1, 0, 1, 0, 0]) nm0_impl_FormatTrace (kt0_impl_FormatTrace (fin_impl_FormatTrace t0 kk)) n (can0_impl_FormatTrace xleft4 xwords3) = L0_impl_FormatTrace (fun r0 => kk (.one (.c (.v (.string r0)))) []) n xleft4 xwords3 := by
  intro n
  induction n with
  | zero => intros; rfl
  | succ n ih =>
    intro xleft4 xwords3
    rw [r0_impl_FormatTrace t0 kk n xleft4 xwords3]
    have hb : (fun xleft4 xwords3 => iter (evF TT cs_impl_FormatTrace 29 an_impl_FormatTrace Tryd.f9 [1, 1, 1, 0, 1, 0, 0]) nm0_impl_FormatTrace (kt0_impl_FormatTrace (fin_impl_FormatTrace t0 kk)) n (can0_impl_FormatTrace xleft4 xwords3)) = L0_impl_FormatTrace (fun r0 => kk (.one (.c (.v (.string r0)))) []) n := by
      funext xleft4 xwords3; exact ih xleft4 xwords3
    rw [hb]
    rfl
theorem g_impl_FormatTrace (t0 : List Int) (kk : AV → List A1 → Prop) :
    ev TT cs_impl_FormatTrace 29 an_impl_FormatTrace (Tryd.f9.body.getD .skip) (st0 con_impl_FormatTrace [.c (.ro .int t0)]) (fin TT con_impl_FormatTrace Tryd.f9.results.toList [.c .sc] [.c (.ro .int t0)] kk) = G_impl_FormatTrace t0 (fun r0 => kk (.one (.c (.v (.string r0)))) []) (fun xleft4 xwords3 => ∃ j, iter (evF TT cs_impl_FormatTrace 29 an_impl_FormatTrace Tryd.f9 [1, 1, 1, 0, 1, 0, 0]) nm0_impl_FormatTrace (kt0_impl_FormatTrace (fin_impl_FormatTrace t0 kk)) j (can0_impl_FormatTrace xleft4 xwords3)) := by kernel_rfl
theorem e_impl_FormatTrace (t0 : List Int) (kk : AV → List A1 → Prop) :
    ev TT cs_impl_FormatTrace 29 an_impl_FormatTrace (Tryd.f9.body.getD .skip) (st0 con_impl_FormatTrace [.c (.ro .int t0)]) (fin TT con_impl_FormatTrace Tryd.f9.results.toList [.c .sc] [.c (.ro .int t0)] kk) = S_impl_FormatTrace t0 (fun r0 => kk (.one (.c (.v (.string r0)))) []) := by
  rw [g_impl_FormatTrace]
  have hi0 : (fun xleft4 xwords3 => ∃ j, iter (evF TT cs_impl_FormatTrace 29 an_impl_FormatTrace Tryd.f9 [1, 1, 1, 0, 1, 0, 0]) nm0_impl_FormatTrace (kt0_impl_FormatTrace (fin_impl_FormatTrace t0 kk)) j (can0_impl_FormatTrace xleft4 xwords3)) = (fun xleft4 xwords3 => ∃ j, L0_impl_FormatTrace (fun r0 => kk (.one (.c (.v (.string r0)))) []) j xleft4 xwords3) := by
    funext xleft4 xwords3
    refine congrArg Exists (funext fun j => ?_)
    rw [l0_impl_FormatTrace t0 kk j xleft4 xwords3]
  rw [hi0]
  rfl
theorem clok_impl_FormatTrace : ConOK Tryd.prog cl_impl_FormatTrace := consCons h_impl_ValidTrace ⟨Tryd.f15, Tryd.func15, by kernel_rfl, ne_of_beq (by kernel_rfl)⟩ (consCons h_impl_firstRun ⟨Tryd.f22, Tryd.func22, by kernel_rfl, ne_of_beq (by kernel_rfl)⟩ (consCons h_impl_runWord ⟨Tryd.f23, Tryd.func23, by kernel_rfl, ne_of_beq (by kernel_rfl)⟩ (consCons h_strings_Join ⟨Tryd.f24, Tryd.func24, by kernel_rfl, ne_of_beq (by kernel_rfl)⟩ (consNil))))
theorem cok_impl_FormatTrace : ConsOK Tryd.prog 29 cs_impl_FormatTrace := ⟨clok_impl_FormatTrace, inlNil, ovNil⟩
theorem i_impl_FormatTrace {vs : List A1} {kk : AV → List A1 → Prop} {motive : List A1 → Prop} (h : con_impl_FormatTrace.F vs kk) (H : ∀ (t0 : List Int), F_impl_FormatTrace t0 (fun r0 => kk (.one (.c (.v (.string r0)))) []) → motive [.c (.ro .int t0)]) : motive vs := by
  unfold con_impl_FormatTrace at h
  dsimp only at h
  split at h
  · exact H _ h
  · exact h.elim
theorem h_impl_FormatTrace : Holds Tryd.prog 9 con_impl_FormatTrace := by
  refine holds_of_ev (rt := [.c .sc]) (T := TT) (Γ := cs_impl_FormatTrace) (an := an_impl_FormatTrace) (N := 29) (c := Tryd.f9.body.getD .skip) Tryd.func9 (by kernel_rfl) Tryd.ntmps9 (by decide) (by decide) mixed tabOK cok_impl_FormatTrace (by kernel_rfl) ?_
  intro vs kk _ hF
  exact i_impl_FormatTrace (motive := fun vs => Goes (ev TT cs_impl_FormatTrace 29 an_impl_FormatTrace (Tryd.f9.body.getD .skip) (st0 con_impl_FormatTrace vs) (fin TT con_impl_FormatTrace Tryd.f9.results.toList [.c .sc] vs kk))) hF (fun t0 hF => goes_of (e_impl_FormatTrace t0 kk) (F_impl_FormatTrace_S hF))
def con_impl_ParseTrace : Con := ⟨[.rd], true, [.c (.sc)], fun vs k => match vs with
    | [.c (.v (.string s0))] => F_impl_ParseTrace s0 (fun r0 r1 => k (.tup [.c (.ro .int r0), .c (.v (.bool r1))]) [])
    | _ => False, false⟩
def an_pt0 : Ann := ⟨[], [], [], []⟩
def cs_pt2 : Cons := ⟨[], [], 900, [948], [], []⟩
def cs_pt1 : Cons := ⟨[], [(7, ⟨44, inlG TT cs_pt2 8 8 an_pt0 (Tryd.f44.body.getD .skip) Tryd.f44.results.toList⟩)], 700, [], [], []⟩
def nmR_pt : List NStep := [.ownc 64 0 .int 128, .keep [0, 2, 3, 4, 10] [32, 48, 64, 128, 948]]
def nmI_pt : List NStep := [.ownc 64 0 .int 128, .keep [4, 6, 26, 27, 1000000, 1000002, 1000003, 1000004, 1000010] [32, 48, 64, 128, 948]]
def an_pt : Ann := ⟨[], [(3, nmR_pt), (8, nmI_pt)], [], []⟩
def cl_pt : List (FuncId × Con) := [(28, con_impl_parseRun), (9, con_impl_FormatTrace)]
def cs_pt : Cons := ⟨cl_pt, [(10, ⟨27, inlG TT cs_pt1 39 8 an_pt0 (Tryd.f27.body.getD .skip) Tryd.f27.results.toList⟩)], 0, [], [], []⟩
def rfB : Code → Code
  | .rangeFunc _ _ _ b => b
  | _ => .skip
def ptCode (f : Func) : Code := f.body.getD .skip
def ptBody (f : Func) : Code := rfB (subc [1, 1, 0, 1, 0] (ptCode f))
def ptLoop (f : Func) : Code := subc [0, 1, 1, 1, 0, 0] (ptBody f)
def S_pt (s0 : ByteArray) (out : List Int) (s : ByteArray) : St := ⟨[(0, .one (.c (.v (.string s0)))), (2, .one (.c (.pb 32 0))), (3, .one (.c (.pb 48 0))), (4, .one (.c (.pb 64 0))), (10, .one (.c (.cl 52 [.k (.string ⟨#[32]⟩), .b 948, .k (.int .i64 0)])))], [(32, .box [.nil]), (48, .box [.v (.bool false)]), (64, .box [.ow 128]), (128, .row .int out), (948, .box [.v (.string s)])]⟩
def canI_pt (s0 : ByteArray) (key cnt i : Int) (out : List Int) (s : ByteArray) : St := ⟨[(4, .one (.c (.pb 64 0))), (6, VI key), (26, VI cnt), (27, VI i), (1000000, .one (.c (.v (.string s0)))), (1000002, .one (.c (.pb 32 0))), (1000003, .one (.c (.pb 48 0))), (1000004, .one (.c (.pb 64 0))), (1000010, .one (.c (.cl 52 [.k (.string ⟨#[32]⟩), .b 948, .k (.int .i64 0)])))], [(32, .box [.nil]), (48, .box [.v (.bool false)]), (64, .box [.ow 128]), (128, .row .int out), (948, .box [.v (.string s)])]⟩
def fin_pt (s0 : ByteArray) (kk : AV → List A1 → Prop) : Kt := fin TT con_impl_ParseTrace Tryd.f11.results.toList [.c (.sl .int), .c .sc] [.c (.v (.string s0))] kk
def kD_pt (s0 : ByteArray) (kk : AV → List A1 → Prop) : Kt := blockK 0 (seqK (fun st k => evX TT cs_pt 39 an_pt [] [52] (subc [1, 1, 1] (ptCode Tryd.f11)) st k) (fin_pt s0 kk))
def kE_pt (s0 : ByteArray) (kk : AV → List A1 → Prop) (K : St → Prop) : Kt := blockK 2 (blockK 1 (rndX 39 nmR_pt K (kD_pt s0 kk)))
theorem r0_pt (s0 s : ByteArray) (key cnt : Int) (kk : AV → List A1 → Prop) (K : St → Prop) (n : Nat) (i : Int) (out : List Int) : iter (fun st k => ev TT cs_pt 39 an_pt (ptLoop Tryd.f11) st k) nmI_pt (kE_pt s0 kk K) (n + 1) (canI_pt s0 key cnt i out s) = T0_pt key cnt i out (fun out => K (S_pt s0 out s)) (fun i out => iter (fun st k => ev TT cs_pt 39 an_pt (ptLoop Tryd.f11) st k) nmI_pt (kE_pt s0 kk K) n (canI_pt s0 key cnt i out s)) := by kernel_rfl
theorem l0_pt (s0 s : ByteArray) (key cnt : Int) (kk : AV → List A1 → Prop) (K : St → Prop) : ∀ (n : Nat) (i : Int) (out : List Int), iter (fun st k => ev TT cs_pt 39 an_pt (ptLoop Tryd.f11) st k) nmI_pt (kE_pt s0 kk K) n (canI_pt s0 key cnt i out s) = L0_pt key cnt (fun out => K (S_pt s0 out s)) n i out := by
  intro n
  induction n with
  | zero => intros; rfl
  | succ n ih =>
    intro i out
    rw [r0_pt s0 s key cnt kk K n i out]
    have hb : (fun i out => iter (fun st k => ev TT cs_pt 39 an_pt (ptLoop Tryd.f11) st k) nmI_pt (kE_pt s0 kk K) n (canI_pt s0 key cnt i out s)) = L0_pt key cnt (fun out => K (S_pt s0 out s)) n := by
      funext i out; exact ih i out
    rw [hb]
    rfl
theorem b0_pt (s0 s x : ByteArray) (out : List Int) (kk : AV → List A1 → Prop) (K : St → Prop) :
    ev TT cs_pt 39 an_pt (ptBody Tryd.f11) (rnd1 39 11 5 x (S_pt s0 out s)) (rndX 39 nmR_pt K (kD_pt s0 kk)) =
      F_impl_parseRun x fun key cnt => br (decide (cnt < 1)) (kk (.tup [.c (.ro .int []), .c (.v (.bool false))]) []) (InR (24 - (out.length : Int)) ∧ br (decide (cnt > (24 - (out.length : Int)))) (kk (.tup [.c (.ro .int []), .c (.v (.bool false))]) []) (∃ n, iter (fun st k => ev TT cs_pt 39 an_pt (ptLoop Tryd.f11) st k) nmI_pt (kE_pt s0 kk K) n (canI_pt s0 key cnt 0 out s))) := by kernel_rfl
theorem d0_pt (s0 s : ByteArray) (out : List Int) (kk : AV → List A1 → Prop) :
    kD_pt s0 kk .normal (S_pt s0 out s) = D_pt s0 out (fun r0 r1 => kk (.tup [.c (.ro .int r0), .c (.v (.bool r1))]) []) := by kernel_rfl
theorem g0_pt (s0 : ByteArray) (kk : AV → List A1 → Prop) :
    evX TT cs_pt 39 an_pt [] [52] (ptCode Tryd.f11) (st0 con_impl_ParseTrace [.c (.v (.string s0))]) (fin_pt s0 kk) =
      SqRule TT cs_pt 39 an_pt [52] (.tmp 10) 11 5 (ptBody Tryd.f11) nmR_pt (S_pt s0 [] s0) (kD_pt s0 kk) := by kernel_rfl
theorem words_split : ∀ {a : List Int}, BS a → wordsB 32 (a.map fun x => UInt8.ofNat x.toNat) = (splitB 32 a).map (fun w => w.map fun x => UInt8.ofNat x.toNat)
  | [], _ => rfl
  | x :: a, h => by
    have ih := words_split (a := a) fun y hy => h y (List.mem_cons_of_mem _ hy)
    rw [List.map_cons, wordsB, splitB, ih]
    by_cases e : x = 32
    · subst e; rw [if_pos rfl, if_pos (by rfl)]; rfl
    · rw [if_neg e, if_neg (fun q => e (u8_inj (h x List.mem_cons_self) (by omega) (q.trans rfl)))]
      cases splitB 32 a with
      | nil => rfl
      | cons w ws => rfl
theorem words_is {a : List Int} (h : BS a) : words 32 (strOfNums a) = (splitB 32 a).map strOfNums := by
  rw [words, str_data, show ((a.map fun n => UInt8.ofNat n.toNat).toArray).toList = a.map fun n => UInt8.ofNat n.toNat from rfl, words_split h, List.map_map]; rfl
theorem S_pt_at (s0 : ByteArray) (out : List Int) (s : ByteArray) : (S_pt s0 out s).ev (.tmp 10) = .one (.c (.cl 52 [.k (.string ⟨#[32]⟩), .b 948, .k (.int .i64 0)])) ∧ lkp (S_pt s0 out s).o 948 = some (.box [.v (.string s)]) := ⟨by kernel_rfl, by kernel_rfl⟩
theorem S_pt_set (s0 : ByteArray) (out : List Int) (s s' : ByteArray) : (⟨(S_pt s0 out s).t, setO 948 (.box [.v (.string s')]) (S_pt s0 out s).o⟩ : St) = S_pt s0 out s' := by kernel_rfl
theorem m_pt : memN [52] 52 = true := by kernel_rfl
theorem s_pt (a : List Int) (kk : AV → List A1 → Prop) (hb : BS a) (hl : a.length ≤ 10000000) {I : List ByteArray → List Int → Prop} (h0 : I [] [])
    (hs : ∀ (pre : List ByteArray) (x : ByteArray) (out : List Int) (K : List Int → Prop), pre ++ [x] <+: (splitB 32 a).map strOfNums → I pre out → (∀ out', I (pre ++ [x]) out' → K out') → R_pt x out (fun r0 r1 => kk (.tup [.c (.ro .int r0), .c (.v (.bool r1))]) []) K)
    (hd : ∀ out, I ((splitB 32 a).map strOfNums) out → D_pt (strOfNums a) out (fun r0 r1 => kk (.tup [.c (.ro .int r0), .c (.v (.bool r1))]) [])) :
    SqRule TT cs_pt 39 an_pt [52] (.tmp 10) 11 5 (ptBody Tryd.f11) nmR_pt (S_pt (strOfNums a) [] (strOfNums a)) (kD_pt (strOfNums a) kk) := by
  refine SqRule.mk ?_
  refine Exists.intro (List Int) (Exists.intro (S_pt (strOfNums a)) (Exists.intro I (Exists.intro [] (Exists.intro 52 (Exists.intro 948 (Exists.intro 32 (Exists.intro (strOfNums a) ?_)))))))
  refine And.intro rfl (And.intro m_pt (And.intro (by rw [str_size]; omega) (And.intro (S_pt_at (strOfNums a)) (And.intro (S_pt_set (strOfNums a)) (And.intro h0 (And.intro ?_ ?_))))))
  · intro pre x out s K hpre hI hK
    rw [words_is hb] at hpre
    have := hs pre x out (fun out => K (S_pt (strOfNums a) out s)) hpre hI hK
    rw [b0_pt (strOfNums a) s x out kk K]
    simp only [l0_pt]
    exact this
  · intro out s hI
    rw [words_is hb] at hI
    rw [d0_pt (strOfNums a) s out kk]
    exact hd out hI
theorem e_impl_ParseTrace (s0 : ByteArray) (kk : AV → List A1 → Prop) (h : F_impl_ParseTrace s0 (fun r0 r1 => kk (.tup [.c (.ro .int r0), .c (.v (.bool r1))]) [])) :
    Goes (evX TT cs_pt 39 an_pt [] [52] (ptCode Tryd.f11) (st0 con_impl_ParseTrace [.c (.v (.string s0))]) (fin_pt s0 kk)) := by
  obtain ⟨a, ⟨hb, e, hl⟩, I, h0, hs, hd⟩ := F_impl_ParseTrace_R h
  subst e
  exact goes_of (g0_pt (strOfNums a) kk) (s_pt a kk hb hl h0 hs hd)
theorem cok_pt2 : ConsOK Tryd.prog 8 cs_pt2 := ⟨consNil, inlNil, ovNil⟩
theorem cok_pt1 : ConsOK Tryd.prog 8 cs_pt1 := ⟨consNil, inlCons (inl_ok Tryd.func44 (by kernel_rfl) (ne_of_beq (by kernel_rfl)) Tryd.ntmps44 (by decide) mixed tabOK cok_pt2 (by kernel_rfl)) inlNil, ovNil⟩
theorem clok_pt : ConOK Tryd.prog cl_pt := consCons h_impl_parseRun ⟨Tryd.f28, Tryd.func28, by kernel_rfl, ne_of_beq (by kernel_rfl)⟩ (consCons h_impl_FormatTrace ⟨Tryd.f9, Tryd.func9, by kernel_rfl, ne_of_beq (by kernel_rfl)⟩ (consNil))
theorem cok_pt : ConsOK Tryd.prog 39 cs_pt := ⟨clok_pt, inlCons (inl_ok Tryd.func27 (by kernel_rfl) (ne_of_beq (by kernel_rfl)) Tryd.ntmps27 (by decide) mixed tabOK cok_pt1 (by kernel_rfl)) inlNil, ovNil⟩
theorem h_impl_ParseTrace : Holds Tryd.prog 11 con_impl_ParseTrace := by
  refine holds_of_evX (rt := [.c (.sl .int), .c .sc]) (T := TT) (Γ := cs_pt) (an := an_pt) (bw := []) (sq := [52]) (N := 39) (c := (ptCode Tryd.f11)) Tryd.func11 (by kernel_rfl) Tryd.ntmps11 (by decide) (by decide) mixed tabOK cok_pt (fun f hf => by cases hf) (fun f hf => ?_) (by kernel_rfl) (by kernel_rfl) ?_
  · have : f = 52 := by
      unfold memN at hf
      split at hf
      · rename_i hb; exact (Nat.eq_of_beq_eq_true hb).symm
      · cases hf
    subst this
    exact Go.Proofs.Tryd.sq_ok
  · intro vs kk _ hF
    unfold con_impl_ParseTrace at hF
    dsimp only at hF
    split at hF
    · exact e_impl_ParseTrace _ _ hF
    · exact hF.elim
def con_laws_eqIntS : Con := ⟨[.rd, .rd], true, [.c (.sl .int), .c (.sl .int)], fun vs k => match vs with
    | [.c (.ro .int a0), .c (.ro .int b1)] => F_laws_eqIntS a0 b1 (fun r0 => k (.one (.c (.v (.bool r0)))) [])
    | _ => False, false⟩
def cl_laws_eqIntS : List (FuncId × Con) := []
def nm0_laws_eqIntS : List NStep := [.keep [0, 1, 5] []]
def an_laws_eqIntS : Ann := ⟨[(6, .take 0 (.take 1 (.take 2 (.take 3 (.take 4 (.take 5 (.take 6 (.take 7 (.take 8 (.done))))))))), [])], [(4, nm0_laws_eqIntS)], [], []⟩
def cs_laws_eqIntS : Cons := ⟨cl_laws_eqIntS, [], 0, [], [], []⟩
def can0_laws_eqIntS (a0 : List Int) (b1 : List Int) (xi5 : Int) : St := ⟨[(0, .one (.c (.ro .int a0))), (1, .one (.c (.ro .int b1))), (5, .one (.c (.v (.int .i64 xi5))))], []⟩
def fin_laws_eqIntS (a0 : List Int) (b1 : List Int) (kk : AV → List A1 → Prop) : Kt := fin TT con_laws_eqIntS Tryd.f17.results.toList [.c .sc] [.c (.ro .int a0), .c (.ro .int b1)] kk
def kt0_laws_eqIntS (kf : Kt) : Kt := blockK 0 (seqK (evF TT cs_laws_eqIntS 26 an_laws_eqIntS Tryd.f17 [1, 1, 1]) (kf))
theorem r0_laws_eqIntS (a0 : List Int) (b1 : List Int) (kk : AV → List A1 → Prop) (n : Nat) (xi5 : Int) :
    iter (evF TT cs_laws_eqIntS 26 an_laws_eqIntS Tryd.f17 [1, 1, 0, 1, 0, 0]) nm0_laws_eqIntS (kt0_laws_eqIntS (fin_laws_eqIntS a0 b1 kk)) (n + 1) (can0_laws_eqIntS a0 b1 xi5) = T0_laws_eqIntS a0 b1 xi5 (fun r0 => kk (.one (.c (.v (.bool r0)))) []) (fun xi5 => iter (evF TT cs_laws_eqIntS 26 an_laws_eqIntS Tryd.f17 [1, 1, 0, 1, 0, 0]) nm0_laws_eqIntS (kt0_laws_eqIntS (fin_laws_eqIntS a0 b1 kk)) n (can0_laws_eqIntS a0 b1 xi5)) := by kernel_rfl
theorem l0_laws_eqIntS (a0 : List Int) (b1 : List Int) (kk : AV → List A1 → Prop) : ∀ (n : Nat) (xi5 : Int), iter (evF TT cs_laws_eqIntS 26 an_laws_eqIntS Tryd.f17 [1, 1, 0, 1, 0, 0]) nm0_laws_eqIntS (kt0_laws_eqIntS (fin_laws_eqIntS a0 b1 kk)) n (can0_laws_eqIntS a0 b1 xi5) = L0_laws_eqIntS a0 b1 (fun r0 => kk (.one (.c (.v (.bool r0)))) []) n xi5 := by
  intro n
  induction n with
  | zero => intros; rfl
  | succ n ih =>
    intro xi5
    rw [r0_laws_eqIntS a0 b1 kk n xi5]
    have hb : (fun xi5 => iter (evF TT cs_laws_eqIntS 26 an_laws_eqIntS Tryd.f17 [1, 1, 0, 1, 0, 0]) nm0_laws_eqIntS (kt0_laws_eqIntS (fin_laws_eqIntS a0 b1 kk)) n (can0_laws_eqIntS a0 b1 xi5)) = L0_laws_eqIntS a0 b1 (fun r0 => kk (.one (.c (.v (.bool r0)))) []) n := by
      funext xi5; exact ih xi5
    rw [hb]
    rfl
theorem g_laws_eqIntS (a0 : List Int) (b1 : List Int) (kk : AV → List A1 → Prop) :
    ev TT cs_laws_eqIntS 26 an_laws_eqIntS (Tryd.f17.body.getD .skip) (st0 con_laws_eqIntS [.c (.ro .int a0), .c (.ro .int b1)]) (fin TT con_laws_eqIntS Tryd.f17.results.toList [.c .sc] [.c (.ro .int a0), .c (.ro .int b1)] kk) = G_laws_eqIntS a0 b1 (fun r0 => kk (.one (.c (.v (.bool r0)))) []) (fun a0 b1 xi5 => ∃ j, iter (evF TT cs_laws_eqIntS 26 an_laws_eqIntS Tryd.f17 [1, 1, 0, 1, 0, 0]) nm0_laws_eqIntS (kt0_laws_eqIntS (fin_laws_eqIntS a0 b1 kk)) j (can0_laws_eqIntS a0 b1 xi5)) := by kernel_rfl
theorem e_laws_eqIntS (a0 : List Int) (b1 : List Int) (kk : AV → List A1 → Prop) :
    ev TT cs_laws_eqIntS 26 an_laws_eqIntS (Tryd.f17.body.getD .skip) (st0 con_laws_eqIntS [.c (.ro .int a0), .c (.ro .int b1)]) (fin TT con_laws_eqIntS Tryd.f17.results.toList [.c .sc] [.c (.ro .int a0), .c (.ro .int b1)] kk) = S_laws_eqIntS a0 b1 (fun r0 => kk (.one (.c (.v (.bool r0)))) []) := by
  rw [g_laws_eqIntS]
  have hi0 : (fun a0 b1 xi5 => ∃ j, iter (evF TT cs_laws_eqIntS 26 an_laws_eqIntS Tryd.f17 [1, 1, 0, 1, 0, 0]) nm0_laws_eqIntS (kt0_laws_eqIntS (fin_laws_eqIntS a0 b1 kk)) j (can0_laws_eqIntS a0 b1 xi5)) = (fun a0 b1 xi5 => ∃ j, L0_laws_eqIntS a0 b1 (fun r0 => kk (.one (.c (.v (.bool r0)))) []) j xi5) := by
    funext a0 b1 xi5
    refine congrArg Exists (funext fun j => ?_)
    rw [l0_laws_eqIntS a0 b1 kk j xi5]
  rw [hi0]
  rfl
theorem clok_laws_eqIntS : ConOK Tryd.prog cl_laws_eqIntS := consNil
theorem cok_laws_eqIntS : ConsOK Tryd.prog 26 cs_laws_eqIntS := ⟨clok_laws_eqIntS, inlNil, ovNil⟩
theorem i_laws_eqIntS {vs : List A1} {kk : AV → List A1 → Prop} {motive : List A1 → Prop} (h : con_laws_eqIntS.F vs kk) (H : ∀ (a0 : List Int) (b1 : List Int), F_laws_eqIntS a0 b1 (fun r0 => kk (.one (.c (.v (.bool r0)))) []) → motive [.c (.ro .int a0), .c (.ro .int b1)]) : motive vs := by
  unfold con_laws_eqIntS at h
  dsimp only at h
  split at h
  · exact H _ _ h
  · exact h.elim
theorem h_laws_eqIntS : Holds Tryd.prog 17 con_laws_eqIntS := by
  refine holds_of_ev (rt := [.c .sc]) (T := TT) (Γ := cs_laws_eqIntS) (an := an_laws_eqIntS) (N := 26) (c := Tryd.f17.body.getD .skip) Tryd.func17 (by kernel_rfl) Tryd.ntmps17 (by decide) (by decide) mixed tabOK cok_laws_eqIntS (by kernel_rfl) ?_
  intro vs kk _ hF
  exact i_laws_eqIntS (motive := fun vs => Goes (ev TT cs_laws_eqIntS 26 an_laws_eqIntS (Tryd.f17.body.getD .skip) (st0 con_laws_eqIntS vs) (fin TT con_laws_eqIntS Tryd.f17.results.toList [.c .sc] vs kk))) hF (fun a0 b1 hF => goes_of (e_laws_eqIntS a0 b1 kk) (F_laws_eqIntS_S hF))
def con_laws_markIntS : Con := ⟨[.mu, .rd], true, [.c (.sl .int), .c (.sc)], fun vs k => match vs with
    | [.c (.ro .int a0), .c (.v (.int .i64 k1))] => F_laws_markIntS a0 k1 (fun r0 r1 => k (.one (.c (.v (.int .i64 r0)))) [.c (.ro .int r1)])
    | _ => False, false⟩
def cl_laws_markIntS : List (FuncId × Con) := []
def nm0_laws_markIntS : List NStep := [.keep [0, 1, 5] [100000]]
def an_laws_markIntS : Ann := ⟨[], [(2, nm0_laws_markIntS)], [], []⟩
def cs_laws_markIntS : Cons := ⟨cl_laws_markIntS, [], 0, [], [], []⟩
def can0_laws_markIntS (xk1 : Int) (xi5 : Int) (xy100000 : List Int) : St := ⟨[(0, .one (.c (.ow 100000))), (1, .one (.c (.v (.int .i64 xk1)))), (5, .one (.c (.v (.int .i64 xi5))))], [(100000, .row .int xy100000)]⟩
def fin_laws_markIntS (a0 : List Int) (k1 : Int) (kk : AV → List A1 → Prop) : Kt := fin TT con_laws_markIntS Tryd.f18.results.toList [.c .sc] [.c (.ro .int a0), .c (.v (.int .i64 k1))] kk
def kt0_laws_markIntS (kf : Kt) : Kt := blockK 0 (seqK (evF TT cs_laws_markIntS 19 an_laws_markIntS Tryd.f18 [1, 1]) (kf))
theorem r0_laws_markIntS (a0 : List Int) (k1 : Int) (kk : AV → List A1 → Prop) (n : Nat) (xk1 : Int) (xi5 : Int) (xy100000 : List Int) :
    iter (evF TT cs_laws_markIntS 19 an_laws_markIntS Tryd.f18 [1, 0, 1, 0, 0]) nm0_laws_markIntS (kt0_laws_markIntS (fin_laws_markIntS a0 k1 kk)) (n + 1) (can0_laws_markIntS xk1 xi5 xy100000) = T0_laws_markIntS xk1 xi5 xy100000 (fun r0 r1 => kk (.one (.c (.v (.int .i64 r0)))) [.c (.ro .int r1)]) (fun xk1 xi5 xy100000 => iter (evF TT cs_laws_markIntS 19 an_laws_markIntS Tryd.f18 [1, 0, 1, 0, 0]) nm0_laws_markIntS (kt0_laws_markIntS (fin_laws_markIntS a0 k1 kk)) n (can0_laws_markIntS xk1 xi5 xy100000)) := by kernel_rfl
theorem l0_laws_markIntS (a0 : List Int) (k1 : Int) (kk : AV → List A1 → Prop) : ∀ (n : Nat) (xk1 : Int) (xi5 : Int) (xy100000 : List Int), iter (evF TT cs_laws_markIntS 19 an_laws_markIntS Tryd.f18 [1, 0, 1, 0, 0]) nm0_laws_markIntS (kt0_laws_markIntS (fin_laws_markIntS a0 k1 kk)) n (can0_laws_markIntS xk1 xi5 xy100000) = L0_laws_markIntS (fun r0 r1 => kk (.one (.c (.v (.int .i64 r0)))) [.c (.ro .int r1)]) n xk1 xi5 xy100000 := by
  intro n
  induction n with
  | zero => intros; rfl
  | succ n ih =>
    intro xk1 xi5 xy100000
    rw [r0_laws_markIntS a0 k1 kk n xk1 xi5 xy100000]
    have hb : (fun xk1 xi5 xy100000 => iter (evF TT cs_laws_markIntS 19 an_laws_markIntS Tryd.f18 [1, 0, 1, 0, 0]) nm0_laws_markIntS (kt0_laws_markIntS (fin_laws_markIntS a0 k1 kk)) n (can0_laws_markIntS xk1 xi5 xy100000)) = L0_laws_markIntS (fun r0 r1 => kk (.one (.c (.v (.int .i64 r0)))) [.c (.ro .int r1)]) n := by
      funext xk1 xi5 xy100000; exact ih xk1 xi5 xy100000
    rw [hb]
    rfl
theorem g_laws_markIntS (a0 : List Int) (k1 : Int) (kk : AV → List A1 → Prop) :
    ev TT cs_laws_markIntS 19 an_laws_markIntS (Tryd.f18.body.getD .skip) (st0 con_laws_markIntS [.c (.ro .int a0), .c (.v (.int .i64 k1))]) (fin TT con_laws_markIntS Tryd.f18.results.toList [.c .sc] [.c (.ro .int a0), .c (.v (.int .i64 k1))] kk) = G_laws_markIntS a0 k1 (fun xk1 xi5 xy100000 => ∃ j, iter (evF TT cs_laws_markIntS 19 an_laws_markIntS Tryd.f18 [1, 0, 1, 0, 0]) nm0_laws_markIntS (kt0_laws_markIntS (fin_laws_markIntS a0 k1 kk)) j (can0_laws_markIntS xk1 xi5 xy100000)) := by kernel_rfl
theorem e_laws_markIntS (a0 : List Int) (k1 : Int) (kk : AV → List A1 → Prop) :
    ev TT cs_laws_markIntS 19 an_laws_markIntS (Tryd.f18.body.getD .skip) (st0 con_laws_markIntS [.c (.ro .int a0), .c (.v (.int .i64 k1))]) (fin TT con_laws_markIntS Tryd.f18.results.toList [.c .sc] [.c (.ro .int a0), .c (.v (.int .i64 k1))] kk) = S_laws_markIntS a0 k1 (fun r0 r1 => kk (.one (.c (.v (.int .i64 r0)))) [.c (.ro .int r1)]) := by
  rw [g_laws_markIntS]
  have hi0 : (fun xk1 xi5 xy100000 => ∃ j, iter (evF TT cs_laws_markIntS 19 an_laws_markIntS Tryd.f18 [1, 0, 1, 0, 0]) nm0_laws_markIntS (kt0_laws_markIntS (fin_laws_markIntS a0 k1 kk)) j (can0_laws_markIntS xk1 xi5 xy100000)) = (fun xk1 xi5 xy100000 => ∃ j, L0_laws_markIntS (fun r0 r1 => kk (.one (.c (.v (.int .i64 r0)))) [.c (.ro .int r1)]) j xk1 xi5 xy100000) := by
    funext xk1 xi5 xy100000
    refine congrArg Exists (funext fun j => ?_)
    rw [l0_laws_markIntS a0 k1 kk j xk1 xi5 xy100000]
  rw [hi0]
  rfl
theorem clok_laws_markIntS : ConOK Tryd.prog cl_laws_markIntS := consNil
theorem cok_laws_markIntS : ConsOK Tryd.prog 19 cs_laws_markIntS := ⟨clok_laws_markIntS, inlNil, ovNil⟩
theorem i_laws_markIntS {vs : List A1} {kk : AV → List A1 → Prop} {motive : List A1 → Prop} (h : con_laws_markIntS.F vs kk) (H : ∀ (a0 : List Int) (k1 : Int), F_laws_markIntS a0 k1 (fun r0 r1 => kk (.one (.c (.v (.int .i64 r0)))) [.c (.ro .int r1)]) → motive [.c (.ro .int a0), .c (.v (.int .i64 k1))]) : motive vs := by
  unfold con_laws_markIntS at h
  dsimp only at h
  split at h
  · exact H _ _ h
  · exact h.elim
theorem h_laws_markIntS : Holds Tryd.prog 18 con_laws_markIntS := by
  refine holds_of_ev (rt := [.c .sc]) (T := TT) (Γ := cs_laws_markIntS) (an := an_laws_markIntS) (N := 19) (c := Tryd.f18.body.getD .skip) Tryd.func18 (by kernel_rfl) Tryd.ntmps18 (by decide) (by decide) mixed tabOK cok_laws_markIntS (by kernel_rfl) ?_
  intro vs kk _ hF
  exact i_laws_markIntS (motive := fun vs => Goes (ev TT cs_laws_markIntS 19 an_laws_markIntS (Tryd.f18.body.getD .skip) (st0 con_laws_markIntS vs) (fin TT con_laws_markIntS Tryd.f18.results.toList [.c .sc] vs kk))) hF (fun a0 k1 hF => goes_of (e_laws_markIntS a0 k1 kk) (F_laws_markIntS_S hF))
def con_laws_heldIntS : Con := ⟨[.rd, .rd], true, [.c (.sl .int), .c (.sc)], fun vs k => match vs with
    | [.c (.ro .int a0), .c (.v (.int .i64 k1))] => F_laws_heldIntS a0 k1 (fun r0 => k (.one (.c (.v (.int .i64 r0)))) [])
    | _ => False, false⟩
def cl_laws_heldIntS : List (FuncId × Con) := []
def nm0_laws_heldIntS : List NStep := [.keep [0, 1, 5] []]
def an_laws_heldIntS : Ann := ⟨[], [(2, nm0_laws_heldIntS)], [], []⟩
def cs_laws_heldIntS : Cons := ⟨cl_laws_heldIntS, [], 0, [], [], []⟩
def can0_laws_heldIntS (a0 : List Int) (xk1 : Int) (xi5 : Int) : St := ⟨[(0, .one (.c (.ro .int a0))), (1, .one (.c (.v (.int .i64 xk1)))), (5, .one (.c (.v (.int .i64 xi5))))], []⟩
def fin_laws_heldIntS (a0 : List Int) (k1 : Int) (kk : AV → List A1 → Prop) : Kt := fin TT con_laws_heldIntS Tryd.f19.results.toList [.c .sc] [.c (.ro .int a0), .c (.v (.int .i64 k1))] kk
def kt0_laws_heldIntS (kf : Kt) : Kt := blockK 0 (seqK (evF TT cs_laws_heldIntS 21 an_laws_heldIntS Tryd.f19 [1, 1]) (kf))
theorem r0_laws_heldIntS (a0 : List Int) (k1 : Int) (kk : AV → List A1 → Prop) (n : Nat) (xk1 : Int) (xi5 : Int) :
    iter (evF TT cs_laws_heldIntS 21 an_laws_heldIntS Tryd.f19 [1, 0, 1, 0, 0]) nm0_laws_heldIntS (kt0_laws_heldIntS (fin_laws_heldIntS a0 k1 kk)) (n + 1) (can0_laws_heldIntS a0 xk1 xi5) = T0_laws_heldIntS a0 xk1 xi5 (fun r0 => kk (.one (.c (.v (.int .i64 r0)))) []) (fun xk1 xi5 => iter (evF TT cs_laws_heldIntS 21 an_laws_heldIntS Tryd.f19 [1, 0, 1, 0, 0]) nm0_laws_heldIntS (kt0_laws_heldIntS (fin_laws_heldIntS a0 k1 kk)) n (can0_laws_heldIntS a0 xk1 xi5)) := by kernel_rfl
theorem l0_laws_heldIntS (a0 : List Int) (k1 : Int) (kk : AV → List A1 → Prop) : ∀ (n : Nat) (xk1 : Int) (xi5 : Int), iter (evF TT cs_laws_heldIntS 21 an_laws_heldIntS Tryd.f19 [1, 0, 1, 0, 0]) nm0_laws_heldIntS (kt0_laws_heldIntS (fin_laws_heldIntS a0 k1 kk)) n (can0_laws_heldIntS a0 xk1 xi5) = L0_laws_heldIntS a0 (fun r0 => kk (.one (.c (.v (.int .i64 r0)))) []) n xk1 xi5 := by
  intro n
  induction n with
  | zero => intros; rfl
  | succ n ih =>
    intro xk1 xi5
    rw [r0_laws_heldIntS a0 k1 kk n xk1 xi5]
    have hb : (fun xk1 xi5 => iter (evF TT cs_laws_heldIntS 21 an_laws_heldIntS Tryd.f19 [1, 0, 1, 0, 0]) nm0_laws_heldIntS (kt0_laws_heldIntS (fin_laws_heldIntS a0 k1 kk)) n (can0_laws_heldIntS a0 xk1 xi5)) = L0_laws_heldIntS a0 (fun r0 => kk (.one (.c (.v (.int .i64 r0)))) []) n := by
      funext xk1 xi5; exact ih xk1 xi5
    rw [hb]
    rfl
theorem g_laws_heldIntS (a0 : List Int) (k1 : Int) (kk : AV → List A1 → Prop) :
    ev TT cs_laws_heldIntS 21 an_laws_heldIntS (Tryd.f19.body.getD .skip) (st0 con_laws_heldIntS [.c (.ro .int a0), .c (.v (.int .i64 k1))]) (fin TT con_laws_heldIntS Tryd.f19.results.toList [.c .sc] [.c (.ro .int a0), .c (.v (.int .i64 k1))] kk) = G_laws_heldIntS a0 k1 (fun a0 xk1 xi5 => ∃ j, iter (evF TT cs_laws_heldIntS 21 an_laws_heldIntS Tryd.f19 [1, 0, 1, 0, 0]) nm0_laws_heldIntS (kt0_laws_heldIntS (fin_laws_heldIntS a0 k1 kk)) j (can0_laws_heldIntS a0 xk1 xi5)) := by kernel_rfl
theorem e_laws_heldIntS (a0 : List Int) (k1 : Int) (kk : AV → List A1 → Prop) :
    ev TT cs_laws_heldIntS 21 an_laws_heldIntS (Tryd.f19.body.getD .skip) (st0 con_laws_heldIntS [.c (.ro .int a0), .c (.v (.int .i64 k1))]) (fin TT con_laws_heldIntS Tryd.f19.results.toList [.c .sc] [.c (.ro .int a0), .c (.v (.int .i64 k1))] kk) = S_laws_heldIntS a0 k1 (fun r0 => kk (.one (.c (.v (.int .i64 r0)))) []) := by
  rw [g_laws_heldIntS]
  have hi0 : (fun a0 xk1 xi5 => ∃ j, iter (evF TT cs_laws_heldIntS 21 an_laws_heldIntS Tryd.f19 [1, 0, 1, 0, 0]) nm0_laws_heldIntS (kt0_laws_heldIntS (fin_laws_heldIntS a0 k1 kk)) j (can0_laws_heldIntS a0 xk1 xi5)) = (fun a0 xk1 xi5 => ∃ j, L0_laws_heldIntS a0 (fun r0 => kk (.one (.c (.v (.int .i64 r0)))) []) j xk1 xi5) := by
    funext a0 xk1 xi5
    refine congrArg Exists (funext fun j => ?_)
    rw [l0_laws_heldIntS a0 k1 kk j xk1 xi5]
  rw [hi0]
  rfl
theorem clok_laws_heldIntS : ConOK Tryd.prog cl_laws_heldIntS := consNil
theorem cok_laws_heldIntS : ConsOK Tryd.prog 21 cs_laws_heldIntS := ⟨clok_laws_heldIntS, inlNil, ovNil⟩
theorem i_laws_heldIntS {vs : List A1} {kk : AV → List A1 → Prop} {motive : List A1 → Prop} (h : con_laws_heldIntS.F vs kk) (H : ∀ (a0 : List Int) (k1 : Int), F_laws_heldIntS a0 k1 (fun r0 => kk (.one (.c (.v (.int .i64 r0)))) []) → motive [.c (.ro .int a0), .c (.v (.int .i64 k1))]) : motive vs := by
  unfold con_laws_heldIntS at h
  dsimp only at h
  split at h
  · exact H _ _ h
  · exact h.elim
theorem h_laws_heldIntS : Holds Tryd.prog 19 con_laws_heldIntS := by
  refine holds_of_ev (rt := [.c .sc]) (T := TT) (Γ := cs_laws_heldIntS) (an := an_laws_heldIntS) (N := 21) (c := Tryd.f19.body.getD .skip) Tryd.func19 (by kernel_rfl) Tryd.ntmps19 (by decide) (by decide) mixed tabOK cok_laws_heldIntS (by kernel_rfl) ?_
  intro vs kk _ hF
  exact i_laws_heldIntS (motive := fun vs => Goes (ev TT cs_laws_heldIntS 21 an_laws_heldIntS (Tryd.f19.body.getD .skip) (st0 con_laws_heldIntS vs) (fin TT con_laws_heldIntS Tryd.f19.results.toList [.c .sc] vs kk))) hF (fun a0 k1 hF => goes_of (e_laws_heldIntS a0 k1 kk) (F_laws_heldIntS_S hF))
def con_laws_FnExactParseTrace : Con := ⟨[.rd], true, [.c (.sc)], fun vs k => match vs with
    | [.c (.v (.string aS0))] => F_laws_FnExactParseTrace aS0 (fun r0 => k (.one (.c (.v (.bool r0)))) [])
    | _ => False, false⟩
def cl_laws_FnExactParseTrace : List (FuncId × Con) := [(11, con_impl_ParseTrace), (14, con_spec_ParseTrace), (17, con_laws_eqIntS), (18, con_laws_markIntS), (19, con_laws_heldIntS)]
def an_laws_FnExactParseTrace : Ann := ⟨[], [], [], []⟩
def cs_laws_FnExactParseTrace : Cons := ⟨cl_laws_FnExactParseTrace, [], 0, [], [], []⟩
def fin_laws_FnExactParseTrace (aS0 : ByteArray) (kk : AV → List A1 → Prop) : Kt := fin TT con_laws_FnExactParseTrace Tryd.f7.results.toList [.c .sc] [.c (.v (.string aS0))] kk
theorem g_laws_FnExactParseTrace (aS0 : ByteArray) (kk : AV → List A1 → Prop) :
    ev TT cs_laws_FnExactParseTrace 66 an_laws_FnExactParseTrace (Tryd.f7.body.getD .skip) (st0 con_laws_FnExactParseTrace [.c (.v (.string aS0))]) (fin TT con_laws_FnExactParseTrace Tryd.f7.results.toList [.c .sc] [.c (.v (.string aS0))] kk) = G_laws_FnExactParseTrace aS0 (fun r0 => kk (.one (.c (.v (.bool r0)))) []) := by kernel_rfl
theorem e_laws_FnExactParseTrace (aS0 : ByteArray) (kk : AV → List A1 → Prop) :
    ev TT cs_laws_FnExactParseTrace 66 an_laws_FnExactParseTrace (Tryd.f7.body.getD .skip) (st0 con_laws_FnExactParseTrace [.c (.v (.string aS0))]) (fin TT con_laws_FnExactParseTrace Tryd.f7.results.toList [.c .sc] [.c (.v (.string aS0))] kk) = S_laws_FnExactParseTrace aS0 (fun r0 => kk (.one (.c (.v (.bool r0)))) []) := by
  rw [g_laws_FnExactParseTrace]
  rfl
theorem clok_laws_FnExactParseTrace : ConOK Tryd.prog cl_laws_FnExactParseTrace := consCons h_impl_ParseTrace ⟨Tryd.f11, Tryd.func11, by kernel_rfl, ne_of_beq (by kernel_rfl)⟩ (consCons h_spec_ParseTrace ⟨Tryd.f14, Tryd.func14, by kernel_rfl, ne_of_beq (by kernel_rfl)⟩ (consCons h_laws_eqIntS ⟨Tryd.f17, Tryd.func17, by kernel_rfl, ne_of_beq (by kernel_rfl)⟩ (consCons h_laws_markIntS ⟨Tryd.f18, Tryd.func18, by kernel_rfl, ne_of_beq (by kernel_rfl)⟩ (consCons h_laws_heldIntS ⟨Tryd.f19, Tryd.func19, by kernel_rfl, ne_of_beq (by kernel_rfl)⟩ (consNil)))))
theorem cok_laws_FnExactParseTrace : ConsOK Tryd.prog 66 cs_laws_FnExactParseTrace := ⟨clok_laws_FnExactParseTrace, inlNil, ovNil⟩
theorem i_laws_FnExactParseTrace {vs : List A1} {kk : AV → List A1 → Prop} {motive : List A1 → Prop} (h : con_laws_FnExactParseTrace.F vs kk) (H : ∀ (aS0 : ByteArray), F_laws_FnExactParseTrace aS0 (fun r0 => kk (.one (.c (.v (.bool r0)))) []) → motive [.c (.v (.string aS0))]) : motive vs := by
  unfold con_laws_FnExactParseTrace at h
  dsimp only at h
  split at h
  · exact H _ h
  · exact h.elim
theorem h_laws_FnExactParseTrace : Holds Tryd.prog 7 con_laws_FnExactParseTrace := by
  refine holds_of_ev (rt := [.c .sc]) (T := TT) (Γ := cs_laws_FnExactParseTrace) (an := an_laws_FnExactParseTrace) (N := 66) (c := Tryd.f7.body.getD .skip) Tryd.func7 (by kernel_rfl) Tryd.ntmps7 (by decide) (by decide) mixed tabOK cok_laws_FnExactParseTrace (by kernel_rfl) ?_
  intro vs kk _ hF
  exact i_laws_FnExactParseTrace (motive := fun vs => Goes (ev TT cs_laws_FnExactParseTrace 66 an_laws_FnExactParseTrace (Tryd.f7.body.getD .skip) (st0 con_laws_FnExactParseTrace vs) (fin TT con_laws_FnExactParseTrace Tryd.f7.results.toList [.c .sc] vs kk))) hF (fun aS0 hF => goes_of (e_laws_FnExactParseTrace aS0 kk) (F_laws_FnExactParseTrace_S hF))
end Go.Ev
