/- What the evaluator gives for these functions: their contracts. No statement is proved here. -/
import Derived.Test.YtaajnkggomlppaeFnBestHitsSegmentsE0
namespace Go.Ev
set_option linter.unusedVariables false
set_option maxRecDepth 100000
open Go Go.Proofs
theorem h_impl_NextUse : Holds Try.prog 88 con_impl_NextUse := by
  refine holds_of_ev (rt := [.c .sc]) (T := TT) (Γ := cs_impl_NextUse) (an := an_impl_NextUse) (N := 34) (c := Try.f88.body.getD .skip) Try.func88 (by kernel_rfl) Try.ntmps88 (by decide) (by decide) mixed tabOK cok_impl_NextUse (by kernel_rfl) ?_
  intro vs kk _ hF
  exact i_impl_NextUse (motive := fun vs => Goes (ev TT cs_impl_NextUse 34 an_impl_NextUse (Try.f88.body.getD .skip) (st0 con_impl_NextUse vs) (fin TT con_impl_NextUse Try.f88.results.toList [.c .sc] vs kk))) hF (fun t0 from1 key2 hF => goes_of (e_impl_NextUse t0 from1 key2 kk) (F_impl_NextUse_S hF))
def con_impl_latestKey : Con := ⟨[.rd, .rd, .rd], true, [.c (.sl .int), .c (.sc), .c (.sl .int)], fun vs k => match vs with
    | [.c (.ro .int t0), .c (.v (.int .i64 from1)), .c (.ro .int cache2)] => F_impl_latestKey t0 from1 cache2 (fun r0 => k (.one (.c (.v (.int .i64 r0)))) [])
    | _ => False, false⟩
def cl_impl_latestKey : List (FuncId × Con) := [(88, con_impl_NextUse)]
def nm0_impl_latestKey : List NStep := [.keep [0, 1, 7, 13, 14, 15] []]
def an_impl_latestKey : Ann := ⟨[], [(3, nm0_impl_latestKey)], [], []⟩
def cs_impl_latestKey : Cons := ⟨cl_impl_latestKey, [], 0, [], [], []⟩
def can0_impl_latestKey (cache2 : List Int) (from1 : Int) (t0 : List Int) (xt14 : Int) (xlatest7 : Int) (xt15 : Int) : St := ⟨[(0, .one (.c (.ro .int t0))), (1, .one (.c (.v (.int .i64 from1)))), (7, .one (.c (.v (.int .i64 xlatest7)))), (13, .one (.c (.ro .int cache2))), (14, .one (.c (.v (.int .i64 xt14)))), (15, .one (.c (.v (.int .i64 xt15))))], []⟩
def fin_impl_latestKey (t0 : List Int) (from1 : Int) (cache2 : List Int) (kk : AV → List A1 → Prop) : Kt := fin TT con_impl_latestKey Try.f45.results.toList [.c .sc] [.c (.ro .int t0), .c (.v (.int .i64 from1)), .c (.ro .int cache2)] kk
def kt0_impl_latestKey (kf : Kt) : Kt := blockK 0 (seqK (evF TT cs_impl_latestKey 31 an_impl_latestKey Try.f45 [1, 1, 1]) (kf))
theorem r0_impl_latestKey (t0 : List Int) (from1 : Int) (cache2 : List Int) (xt14 : Int) (kk : AV → List A1 → Prop) (n : Nat) (xlatest7 : Int) (xt15 : Int) :
    iter (evF TT cs_impl_latestKey 31 an_impl_latestKey Try.f45 [1, 1, 0, 1, 0, 0]) nm0_impl_latestKey (kt0_impl_latestKey (fin_impl_latestKey t0 from1 cache2 kk)) (n + 1) (can0_impl_latestKey cache2 from1 t0 xt14 xlatest7 xt15) = T0_impl_latestKey cache2 from1 t0 xt14 xlatest7 xt15 (fun r0 => kk (.one (.c (.v (.int .i64 r0)))) []) (fun xlatest7 xt15 => iter (evF TT cs_impl_latestKey 31 an_impl_latestKey Try.f45 [1, 1, 0, 1, 0, 0]) nm0_impl_latestKey (kt0_impl_latestKey (fin_impl_latestKey t0 from1 cache2 kk)) n (can0_impl_latestKey cache2 from1 t0 xt14 xlatest7 xt15)) := by kernel_rfl
theorem l0_impl_latestKey (t0 : List Int) (from1 : Int) (cache2 : List Int) (xt14 : Int) (kk : AV → List A1 → Prop) : ∀ (n : Nat) (xlatest7 : Int) (xt15 : Int), iter (evF TT cs_impl_latestKey 31 an_impl_latestKey Try.f45 [1, 1, 0, 1, 0, 0]) nm0_impl_latestKey (kt0_impl_latestKey (fin_impl_latestKey t0 from1 cache2 kk)) n (can0_impl_latestKey cache2 from1 t0 xt14 xlatest7 xt15) = L0_impl_latestKey cache2 from1 t0 xt14 (fun r0 => kk (.one (.c (.v (.int .i64 r0)))) []) n xlatest7 xt15 := by
  intro n
  induction n with
  | zero => intros; rfl
  | succ n ih =>
    intro xlatest7 xt15
    rw [r0_impl_latestKey t0 from1 cache2 xt14 kk n xlatest7 xt15]
    have hb : (fun xlatest7 xt15 => iter (evF TT cs_impl_latestKey 31 an_impl_latestKey Try.f45 [1, 1, 0, 1, 0, 0]) nm0_impl_latestKey (kt0_impl_latestKey (fin_impl_latestKey t0 from1 cache2 kk)) n (can0_impl_latestKey cache2 from1 t0 xt14 xlatest7 xt15)) = L0_impl_latestKey cache2 from1 t0 xt14 (fun r0 => kk (.one (.c (.v (.int .i64 r0)))) []) n := by
      funext xlatest7 xt15; exact ih xlatest7 xt15
    rw [hb]
    rfl
theorem g_impl_latestKey (t0 : List Int) (from1 : Int) (cache2 : List Int) (kk : AV → List A1 → Prop) :
    ev TT cs_impl_latestKey 31 an_impl_latestKey (Try.f45.body.getD .skip) (st0 con_impl_latestKey [.c (.ro .int t0), .c (.v (.int .i64 from1)), .c (.ro .int cache2)]) (fin TT con_impl_latestKey Try.f45.results.toList [.c .sc] [.c (.ro .int t0), .c (.v (.int .i64 from1)), .c (.ro .int cache2)] kk) = G_impl_latestKey t0 from1 cache2 (fun cache2 from1 t0 xt14 xlatest7 xt15 => ∃ j, iter (evF TT cs_impl_latestKey 31 an_impl_latestKey Try.f45 [1, 1, 0, 1, 0, 0]) nm0_impl_latestKey (kt0_impl_latestKey (fin_impl_latestKey t0 from1 cache2 kk)) j (can0_impl_latestKey cache2 from1 t0 xt14 xlatest7 xt15)) := by kernel_rfl
theorem e_impl_latestKey (t0 : List Int) (from1 : Int) (cache2 : List Int) (kk : AV → List A1 → Prop) :
    ev TT cs_impl_latestKey 31 an_impl_latestKey (Try.f45.body.getD .skip) (st0 con_impl_latestKey [.c (.ro .int t0), .c (.v (.int .i64 from1)), .c (.ro .int cache2)]) (fin TT con_impl_latestKey Try.f45.results.toList [.c .sc] [.c (.ro .int t0), .c (.v (.int .i64 from1)), .c (.ro .int cache2)] kk) = S_impl_latestKey t0 from1 cache2 (fun r0 => kk (.one (.c (.v (.int .i64 r0)))) []) := by
  rw [g_impl_latestKey]
  have hi0 : (fun cache2 from1 t0 xt14 xlatest7 xt15 => ∃ j, iter (evF TT cs_impl_latestKey 31 an_impl_latestKey Try.f45 [1, 1, 0, 1, 0, 0]) nm0_impl_latestKey (kt0_impl_latestKey (fin_impl_latestKey t0 from1 cache2 kk)) j (can0_impl_latestKey cache2 from1 t0 xt14 xlatest7 xt15)) = (fun cache2 from1 t0 xt14 xlatest7 xt15 => ∃ j, L0_impl_latestKey cache2 from1 t0 xt14 (fun r0 => kk (.one (.c (.v (.int .i64 r0)))) []) j xlatest7 xt15) := by
    funext cache2 from1 t0 xt14 xlatest7 xt15
    refine congrArg Exists (funext fun j => ?_)
    rw [l0_impl_latestKey t0 from1 cache2 xt14 kk j xlatest7 xt15]
  rw [hi0]
  rfl
theorem clok_impl_latestKey : ConOK Try.prog cl_impl_latestKey := consCons h_impl_NextUse ⟨Try.f88, Try.func88, by kernel_rfl, ne_of_beq (by kernel_rfl)⟩ (consNil)
theorem cok_impl_latestKey : ConsOK Try.prog 31 cs_impl_latestKey := ⟨clok_impl_latestKey, inlNil, ovNil⟩
theorem i_impl_latestKey {vs : List A1} {kk : AV → List A1 → Prop} {motive : List A1 → Prop} (h : con_impl_latestKey.F vs kk) (H : ∀ (t0 : List Int) (from1 : Int) (cache2 : List Int), F_impl_latestKey t0 from1 cache2 (fun r0 => kk (.one (.c (.v (.int .i64 r0)))) []) → motive [.c (.ro .int t0), .c (.v (.int .i64 from1)), .c (.ro .int cache2)]) : motive vs := by
  unfold con_impl_latestKey at h
  dsimp only at h
  split at h
  · exact H _ _ _ h
  · exact h.elim
theorem h_impl_latestKey : Holds Try.prog 45 con_impl_latestKey := by
  refine holds_of_ev (rt := [.c .sc]) (T := TT) (Γ := cs_impl_latestKey) (an := an_impl_latestKey) (N := 31) (c := Try.f45.body.getD .skip) Try.func45 (by kernel_rfl) Try.ntmps45 (by decide) (by decide) mixed tabOK cok_impl_latestKey (by kernel_rfl) ?_
  intro vs kk _ hF
  exact i_impl_latestKey (motive := fun vs => Goes (ev TT cs_impl_latestKey 31 an_impl_latestKey (Try.f45.body.getD .skip) (st0 con_impl_latestKey vs) (fin TT con_impl_latestKey Try.f45.results.toList [.c .sc] vs kk))) hF (fun t0 from1 cache2 hF => goes_of (e_impl_latestKey t0 from1 cache2 kk) (F_impl_latestKey_S hF))
def con_impl_BestHits : Con := ⟨[.rd, .rd], true, [.c (.sl .int), .c (.sc)], fun vs k => match vs with
    | [.c (.ro .int t0), .c (.v (.int .i64 room1))] => F_impl_BestHits t0 room1 (fun r0 => k (.one (.c (.v (.int .i64 r0)))) [])
    | _ => False, false⟩
def cl_impl_BestHits : List (FuncId × Con) := [(41, con_impl_ValidTrace), (42, con_impl_validRoom), (43, con_slices_Contains_sint_int), (44, con_impl_withoutKey), (45, con_impl_latestKey)]
def nm0_impl_BestHits : List NStep := [.own 5 .int 90000, .keep [0, 1, 5, 6, 18, 19, 20] [90000]]
def an_impl_BestHits : Ann := ⟨[], [(6, nm0_impl_BestHits)], [], []⟩
def cs_impl_BestHits : Cons := ⟨cl_impl_BestHits, [], 0, [], [], []⟩
def can0_impl_BestHits (room1 : Int) (t0 : List Int) (xt19 : Int) (xhits6 : Int) (xt20 : Int) (xcache5 : List Int) : St := ⟨[(0, .one (.c (.ro .int t0))), (1, .one (.c (.v (.int .i64 room1)))), (5, .one (.c (.ow 90000))), (6, .one (.c (.v (.int .i64 xhits6)))), (18, .one (.c (.ro .int t0))), (19, .one (.c (.v (.int .i64 xt19)))), (20, .one (.c (.v (.int .i64 xt20))))], [(90000, .row .int xcache5)]⟩
def fin_impl_BestHits (t0 : List Int) (room1 : Int) (kk : AV → List A1 → Prop) : Kt := fin TT con_impl_BestHits Try.f14.results.toList [.c .sc] [.c (.ro .int t0), .c (.v (.int .i64 room1))] kk
def kt0_impl_BestHits (kf : Kt) : Kt := blockK 0 (seqK (evF TT cs_impl_BestHits 47 an_impl_BestHits Try.f14 [1, 1, 1, 1, 1]) (kf))
theorem r0_impl_BestHits (t0 : List Int) (room1 : Int) (xt19 : Int) (kk : AV → List A1 → Prop) (n : Nat) (xhits6 : Int) (xt20 : Int) (xcache5 : List Int) :
    iter (evF TT cs_impl_BestHits 47 an_impl_BestHits Try.f14 [1, 1, 1, 1, 0, 1, 0, 0]) nm0_impl_BestHits (kt0_impl_BestHits (fin_impl_BestHits t0 room1 kk)) (n + 1) (can0_impl_BestHits room1 t0 xt19 xhits6 xt20 xcache5) = T0_impl_BestHits room1 t0 xt19 xhits6 xt20 xcache5 (fun r0 => kk (.one (.c (.v (.int .i64 r0)))) []) (fun xhits6 xt20 xcache5 => iter (evF TT cs_impl_BestHits 47 an_impl_BestHits Try.f14 [1, 1, 1, 1, 0, 1, 0, 0]) nm0_impl_BestHits (kt0_impl_BestHits (fin_impl_BestHits t0 room1 kk)) n (can0_impl_BestHits room1 t0 xt19 xhits6 xt20 xcache5)) := by kernel_rfl
theorem l0_impl_BestHits (t0 : List Int) (room1 : Int) (xt19 : Int) (kk : AV → List A1 → Prop) : ∀ (n : Nat) (xhits6 : Int) (xt20 : Int) (xcache5 : List Int), iter (evF TT cs_impl_BestHits 47 an_impl_BestHits Try.f14 [1, 1, 1, 1, 0, 1, 0, 0]) nm0_impl_BestHits (kt0_impl_BestHits (fin_impl_BestHits t0 room1 kk)) n (can0_impl_BestHits room1 t0 xt19 xhits6 xt20 xcache5) = L0_impl_BestHits room1 t0 xt19 (fun r0 => kk (.one (.c (.v (.int .i64 r0)))) []) n xhits6 xt20 xcache5 := by
  intro n
  induction n with
  | zero => intros; rfl
  | succ n ih =>
    intro xhits6 xt20 xcache5
    rw [r0_impl_BestHits t0 room1 xt19 kk n xhits6 xt20 xcache5]
    have hb : (fun xhits6 xt20 xcache5 => iter (evF TT cs_impl_BestHits 47 an_impl_BestHits Try.f14 [1, 1, 1, 1, 0, 1, 0, 0]) nm0_impl_BestHits (kt0_impl_BestHits (fin_impl_BestHits t0 room1 kk)) n (can0_impl_BestHits room1 t0 xt19 xhits6 xt20 xcache5)) = L0_impl_BestHits room1 t0 xt19 (fun r0 => kk (.one (.c (.v (.int .i64 r0)))) []) n := by
      funext xhits6 xt20 xcache5; exact ih xhits6 xt20 xcache5
    rw [hb]
    rfl
theorem g_impl_BestHits (t0 : List Int) (room1 : Int) (kk : AV → List A1 → Prop) :
    ev TT cs_impl_BestHits 47 an_impl_BestHits (Try.f14.body.getD .skip) (st0 con_impl_BestHits [.c (.ro .int t0), .c (.v (.int .i64 room1))]) (fin TT con_impl_BestHits Try.f14.results.toList [.c .sc] [.c (.ro .int t0), .c (.v (.int .i64 room1))] kk) = G_impl_BestHits t0 room1 (fun r0 => kk (.one (.c (.v (.int .i64 r0)))) []) (fun room1 t0 xt19 xhits6 xt20 xcache5 => ∃ j, iter (evF TT cs_impl_BestHits 47 an_impl_BestHits Try.f14 [1, 1, 1, 1, 0, 1, 0, 0]) nm0_impl_BestHits (kt0_impl_BestHits (fin_impl_BestHits t0 room1 kk)) j (can0_impl_BestHits room1 t0 xt19 xhits6 xt20 xcache5)) := by kernel_rfl
theorem e_impl_BestHits (t0 : List Int) (room1 : Int) (kk : AV → List A1 → Prop) :
    ev TT cs_impl_BestHits 47 an_impl_BestHits (Try.f14.body.getD .skip) (st0 con_impl_BestHits [.c (.ro .int t0), .c (.v (.int .i64 room1))]) (fin TT con_impl_BestHits Try.f14.results.toList [.c .sc] [.c (.ro .int t0), .c (.v (.int .i64 room1))] kk) = S_impl_BestHits t0 room1 (fun r0 => kk (.one (.c (.v (.int .i64 r0)))) []) := by
  rw [g_impl_BestHits]
  have hi0 : (fun room1 t0 xt19 xhits6 xt20 xcache5 => ∃ j, iter (evF TT cs_impl_BestHits 47 an_impl_BestHits Try.f14 [1, 1, 1, 1, 0, 1, 0, 0]) nm0_impl_BestHits (kt0_impl_BestHits (fin_impl_BestHits t0 room1 kk)) j (can0_impl_BestHits room1 t0 xt19 xhits6 xt20 xcache5)) = (fun room1 t0 xt19 xhits6 xt20 xcache5 => ∃ j, L0_impl_BestHits room1 t0 xt19 (fun r0 => kk (.one (.c (.v (.int .i64 r0)))) []) j xhits6 xt20 xcache5) := by
    funext room1 t0 xt19 xhits6 xt20 xcache5
    refine congrArg Exists (funext fun j => ?_)
    rw [l0_impl_BestHits t0 room1 xt19 kk j xhits6 xt20 xcache5]
  rw [hi0]
  rfl
theorem clok_impl_BestHits : ConOK Try.prog cl_impl_BestHits := consCons h_impl_ValidTrace ⟨Try.f41, Try.func41, by kernel_rfl, ne_of_beq (by kernel_rfl)⟩ (consCons h_impl_validRoom ⟨Try.f42, Try.func42, by kernel_rfl, ne_of_beq (by kernel_rfl)⟩ (consCons h_slices_Contains_sint_int ⟨Try.f43, Try.func43, by kernel_rfl, ne_of_beq (by kernel_rfl)⟩ (consCons h_impl_withoutKey ⟨Try.f44, Try.func44, by kernel_rfl, ne_of_beq (by kernel_rfl)⟩ (consCons h_impl_latestKey ⟨Try.f45, Try.func45, by kernel_rfl, ne_of_beq (by kernel_rfl)⟩ (consNil)))))
theorem cok_impl_BestHits : ConsOK Try.prog 47 cs_impl_BestHits := ⟨clok_impl_BestHits, inlNil, ovNil⟩
theorem i_impl_BestHits {vs : List A1} {kk : AV → List A1 → Prop} {motive : List A1 → Prop} (h : con_impl_BestHits.F vs kk) (H : ∀ (t0 : List Int) (room1 : Int), F_impl_BestHits t0 room1 (fun r0 => kk (.one (.c (.v (.int .i64 r0)))) []) → motive [.c (.ro .int t0), .c (.v (.int .i64 room1))]) : motive vs := by
  unfold con_impl_BestHits at h
  dsimp only at h
  split at h
  · exact H _ _ h
  · exact h.elim
theorem h_impl_BestHits : Holds Try.prog 14 con_impl_BestHits := by
  refine holds_of_ev (rt := [.c .sc]) (T := TT) (Γ := cs_impl_BestHits) (an := an_impl_BestHits) (N := 47) (c := Try.f14.body.getD .skip) Try.func14 (by kernel_rfl) Try.ntmps14 (by decide) (by decide) mixed tabOK cok_impl_BestHits (by kernel_rfl) ?_
  intro vs kk _ hF
  exact i_impl_BestHits (motive := fun vs => Goes (ev TT cs_impl_BestHits 47 an_impl_BestHits (Try.f14.body.getD .skip) (st0 con_impl_BestHits vs) (fin TT con_impl_BestHits Try.f14.results.toList [.c .sc] vs kk))) hF (fun t0 room1 hF => goes_of (e_impl_BestHits t0 room1 kk) (F_impl_BestHits_S hF))
def con_laws_FnBestHitsSegments : Con := ⟨[.rd], true, [.c (.sl .u8)], fun vs k => match vs with
    | [.c (.ro .u8 code0)] => F_laws_FnBestHitsSegments code0 (fun r0 => k (.one (.c (.v (.bool r0)))) [])
    | _ => False, false⟩
def cl_laws_FnBestHitsSegments : List (FuncId × Con) := [(14, con_impl_BestHits), (24, con_laws_equalGate), (31, con_spec_DrawRunGate), (32, con_impl_RunGate), (33, con_spec_RunGate)]
def an_laws_FnBestHitsSegments : Ann := ⟨[], [], [], []⟩
def cs_laws_FnBestHitsSegments : Cons := ⟨cl_laws_FnBestHitsSegments, [], 0, [], [], []⟩
def fin_laws_FnBestHitsSegments (code0 : List Int) (kk : AV → List A1 → Prop) : Kt := fin TT con_laws_FnBestHitsSegments Try.f9.results.toList [.c .sc] [.c (.ro .u8 code0)] kk
theorem g_laws_FnBestHitsSegments (code0 : List Int) (kk : AV → List A1 → Prop) :
    ev TT cs_laws_FnBestHitsSegments 69 an_laws_FnBestHitsSegments (Try.f9.body.getD .skip) (st0 con_laws_FnBestHitsSegments [.c (.ro .u8 code0)]) (fin TT con_laws_FnBestHitsSegments Try.f9.results.toList [.c .sc] [.c (.ro .u8 code0)] kk) = G_laws_FnBestHitsSegments code0 (fun r0 => kk (.one (.c (.v (.bool r0)))) []) := by kernel_rfl
theorem e_laws_FnBestHitsSegments (code0 : List Int) (kk : AV → List A1 → Prop) :
    ev TT cs_laws_FnBestHitsSegments 69 an_laws_FnBestHitsSegments (Try.f9.body.getD .skip) (st0 con_laws_FnBestHitsSegments [.c (.ro .u8 code0)]) (fin TT con_laws_FnBestHitsSegments Try.f9.results.toList [.c .sc] [.c (.ro .u8 code0)] kk) = S_laws_FnBestHitsSegments code0 (fun r0 => kk (.one (.c (.v (.bool r0)))) []) := by
  rw [g_laws_FnBestHitsSegments]
  rfl
theorem clok_laws_FnBestHitsSegments : ConOK Try.prog cl_laws_FnBestHitsSegments := consCons h_impl_BestHits ⟨Try.f14, Try.func14, by kernel_rfl, ne_of_beq (by kernel_rfl)⟩ (consCons h_laws_equalGate ⟨Try.f24, Try.func24, by kernel_rfl, ne_of_beq (by kernel_rfl)⟩ (consCons h_spec_DrawRunGate ⟨Try.f31, Try.func31, by kernel_rfl, ne_of_beq (by kernel_rfl)⟩ (consCons h_impl_RunGate ⟨Try.f32, Try.func32, by kernel_rfl, ne_of_beq (by kernel_rfl)⟩ (consCons h_spec_RunGate ⟨Try.f33, Try.func33, by kernel_rfl, ne_of_beq (by kernel_rfl)⟩ (consNil)))))
theorem cok_laws_FnBestHitsSegments : ConsOK Try.prog 69 cs_laws_FnBestHitsSegments := ⟨clok_laws_FnBestHitsSegments, inlNil, ovNil⟩
theorem i_laws_FnBestHitsSegments {vs : List A1} {kk : AV → List A1 → Prop} {motive : List A1 → Prop} (h : con_laws_FnBestHitsSegments.F vs kk) (H : ∀ (code0 : List Int), F_laws_FnBestHitsSegments code0 (fun r0 => kk (.one (.c (.v (.bool r0)))) []) → motive [.c (.ro .u8 code0)]) : motive vs := by
  unfold con_laws_FnBestHitsSegments at h
  dsimp only at h
  split at h
  · exact H _ h
  · exact h.elim
theorem h_laws_FnBestHitsSegments : Holds Try.prog 9 con_laws_FnBestHitsSegments := by
  refine holds_of_ev (rt := [.c .sc]) (T := TT) (Γ := cs_laws_FnBestHitsSegments) (an := an_laws_FnBestHitsSegments) (N := 69) (c := Try.f9.body.getD .skip) Try.func9 (by kernel_rfl) Try.ntmps9 (by decide) (by decide) mixed tabOK cok_laws_FnBestHitsSegments (by kernel_rfl) ?_
  intro vs kk _ hF
  exact i_laws_FnBestHitsSegments (motive := fun vs => Goes (ev TT cs_laws_FnBestHitsSegments 69 an_laws_FnBestHitsSegments (Try.f9.body.getD .skip) (st0 con_laws_FnBestHitsSegments vs) (fin TT con_laws_FnBestHitsSegments Try.f9.results.toList [.c .sc] vs kk))) hF (fun code0 hF => goes_of (e_laws_FnBestHitsSegments code0 kk) (F_laws_FnBestHitsSegments_S hF))
end Go.Ev
