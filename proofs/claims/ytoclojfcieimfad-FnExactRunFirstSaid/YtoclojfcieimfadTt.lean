/- The types of the program, as the evaluator wants them. No statement is proved here. -/
import Derived.Test.YtoclojfcieimfadEvT
import Derived.Test.YtoclojfcieimfadChecked
namespace Go.Ev
set_option linter.unusedVariables false
open Go Go.Proofs
def TT : Tab := [(1, .sc (Value.nilFunc)),
  (2, .sc ((Value.int IntKind.i64 0))),
  (3, .sc ((Value.int IntKind.i64 0))),
  (4, .sc ((Value.bool false))),
  (5, .sc ((Value.int IntKind.u8 0))),
  (6, .sc ((Value.int IntKind.u8 0))),
  (7, .st [(0, 1), (1, 1), (2, 1), (3, 1)] [(Value.int IntKind.i64 0), (Value.int IntKind.i64 0), (Value.bool false), (Value.int IntKind.u8 0)]),
  (8, .st [(0, 1), (1, 1), (2, 1), (3, 1)] [(Value.int IntKind.i64 0), (Value.int IntKind.i64 0), (Value.bool false), (Value.int IntKind.u8 0)]),
  (9, .sc ((Value.string (ByteArray.mk #[])))),
  (10, .sc ((Value.string (ByteArray.mk #[])))),
  (11, .sc ((Value.string (ByteArray.mk #[])))),
  (12, .sc ((Value.int IntKind.u64 0))),
  (13, .st [(0, 1), (1, 1)] [(Value.string (ByteArray.mk #[])), (Value.int IntKind.u64 0)]),
  (14, .st [(0, 1), (1, 1)] [(Value.string (ByteArray.mk #[])), (Value.int IntKind.u64 0)]),
  (15, .sc ((Value.pointer none))),
  (16, .sc ((Value.pointer none))),
  (17, .sc ((Value.pointer none))),
  (18, .st [(0, 1)] [(Value.pointer none)]),
  (19, .st [(0, 1)] [(Value.pointer none)]),
  (20, .sc (Value.nilIface)),
  (21, .sc ((Value.int IntKind.i32 0))),
  (22, .sl 3 .int),
  (24, .sc (Value.nilFunc)),
  (25, .sc (Value.nilFunc)),
  (26, .sc (Value.nilFunc)),
  (27, .sc (Value.nilFunc)),
  (28, .sc (Value.nilFunc)),
  (29, .sc (Value.nilFunc)),
  (30, .sc (Value.nilFunc)),
  (32, .sc (Value.nilFunc)),
  (33, .sc (Value.nilFunc)),
  (34, .sc (Value.nilFunc)),
  (35, .sc (Value.nilFunc)),
  (36, .sc (Value.nilFunc)),
  (37, .sc (Value.nilFunc)),
  (38, .sc (Value.nilFunc)),
  (39, .sc (Value.nilFunc)),
  (40, .st [(0, 1), (1, 1), (2, 1), (3, 1)] [(Value.pointer none), (Value.pointer none), (Value.pointer none), (Value.string (ByteArray.mk #[]))]),
  (41, .st [(0, 1), (1, 1), (2, 1), (3, 1)] [(Value.pointer none), (Value.pointer none), (Value.pointer none), (Value.string (ByteArray.mk #[]))]),
  (43, .st [(0, 0)] []),
  (44, .st [(0, 0)] []),
  (45, .sc (Value.nilFunc)),
  (46, .sc ((Value.int IntKind.u32 0))),
  (47, .sc ((Value.int IntKind.u8 0))),
  (48, .sc ((Value.int IntKind.u8 0))),
  (49, .sc (Value.nilFunc)),
  (50, .sc ((Value.pointer none))),
  (51, .sc ((Value.int IntKind.i32 0))),
  (52, .sc ((Value.int IntKind.i32 0))),
  (53, .st [(0, 1), (1, 1), (2, 1), (3, 1), (4, 1), (5, 1), (6, 1), (7, 1), (8, 1), (9, 1), (10, 1)] [(Value.int IntKind.u64 0), (Value.int IntKind.u64 0), (Value.int IntKind.u32 0), (Value.int IntKind.u8 0), (Value.int IntKind.u8 0), (Value.int IntKind.u8 0), (Value.int IntKind.u8 0), Value.nilFunc, (Value.pointer none), (Value.int IntKind.i32 0), (Value.int IntKind.i32 0)]),
  (54, .st [(0, 1), (1, 1), (2, 1), (3, 1), (4, 1), (5, 1), (6, 1), (7, 1), (8, 1), (9, 1), (10, 1)] [(Value.int IntKind.u64 0), (Value.int IntKind.u64 0), (Value.int IntKind.u32 0), (Value.int IntKind.u8 0), (Value.int IntKind.u8 0), (Value.int IntKind.u8 0), (Value.int IntKind.u8 0), Value.nilFunc, (Value.pointer none), (Value.int IntKind.i32 0), (Value.int IntKind.i32 0)]),
  (55, .sc ((Value.pointer none)))]
theorem tab1 : InfOK Try.prog 1 (.sc (Value.nilFunc)) := ⟨Try.t1, (TypeDesc.func #[] #[] false), by kernel_rfl, by kernel_rfl, by kernel_rfl, by kernel_rfl, by kernel_rfl, by kernel_rfl, by first | kernel_rfl | trivial⟩
theorem tab2 : InfOK Try.prog 2 (.sc ((Value.int IntKind.i64 0))) := ⟨Try.t2, (TypeDesc.int IntKind.i64), by kernel_rfl, by kernel_rfl, by kernel_rfl, by kernel_rfl, by kernel_rfl, by kernel_rfl, by first | kernel_rfl | trivial⟩
theorem tab3 : InfOK Try.prog 3 (.sc ((Value.int IntKind.i64 0))) := ⟨Try.t3, (TypeDesc.int IntKind.i64), by kernel_rfl, by kernel_rfl, by kernel_rfl, by kernel_rfl, by kernel_rfl, by kernel_rfl, by first | kernel_rfl | trivial⟩
theorem tab4 : InfOK Try.prog 4 (.sc ((Value.bool false))) := ⟨Try.t4, TypeDesc.bool, by kernel_rfl, by kernel_rfl, by kernel_rfl, by kernel_rfl, by kernel_rfl, by kernel_rfl, by first | kernel_rfl | trivial⟩
theorem tab5 : InfOK Try.prog 5 (.sc ((Value.int IntKind.u8 0))) := ⟨Try.t5, (TypeDesc.int IntKind.u8), by kernel_rfl, by kernel_rfl, by kernel_rfl, by kernel_rfl, by kernel_rfl, by kernel_rfl, by first | kernel_rfl | trivial⟩
theorem tab6 : InfOK Try.prog 6 (.sc ((Value.int IntKind.u8 0))) := ⟨Try.t6, (TypeDesc.int IntKind.u8), by kernel_rfl, by kernel_rfl, by kernel_rfl, by kernel_rfl, by kernel_rfl, by kernel_rfl, by first | kernel_rfl | trivial⟩
theorem tab7 : InfOK Try.prog 7 (.st [(0, 1), (1, 1), (2, 1), (3, 1)] [(Value.int IntKind.i64 0), (Value.int IntKind.i64 0), (Value.bool false), (Value.int IntKind.u8 0)]) := ⟨Try.t7, #[(Field.mk "x" 2 0 false "" "runtime" 0), (Field.mk "y" 3 1 false "" "runtime" 8), (Field.mk "signed" 4 2 false "" "runtime" 16), (Field.mk "code" 6 3 false "" "runtime" 17)], by kernel_rfl, by kernel_rfl, by kernel_rfl, by kernel_rfl, by kernel_rfl, by kernel_rfl, fun n f h => by
    match n with
    | 0 => injection h with h; subst h; exact ⟨Try.t2, by kernel_rfl, by kernel_rfl⟩
    | 1 => injection h with h; subst h; exact ⟨Try.t3, by kernel_rfl, by kernel_rfl⟩
    | 2 => injection h with h; subst h; exact ⟨Try.t4, by kernel_rfl, by kernel_rfl⟩
    | 3 => injection h with h; subst h; exact ⟨Try.t6, by kernel_rfl, by kernel_rfl⟩
    | n + 4 => simp at h⟩
theorem tab8 : InfOK Try.prog 8 (.st [(0, 1), (1, 1), (2, 1), (3, 1)] [(Value.int IntKind.i64 0), (Value.int IntKind.i64 0), (Value.bool false), (Value.int IntKind.u8 0)]) := ⟨Try.t8, #[(Field.mk "x" 2 0 false "" "runtime" 0), (Field.mk "y" 3 1 false "" "runtime" 8), (Field.mk "signed" 4 2 false "" "runtime" 16), (Field.mk "code" 6 3 false "" "runtime" 17)], by kernel_rfl, by kernel_rfl, by kernel_rfl, by kernel_rfl, by kernel_rfl, by kernel_rfl, fun n f h => by
    match n with
    | 0 => injection h with h; subst h; exact ⟨Try.t2, by kernel_rfl, by kernel_rfl⟩
    | 1 => injection h with h; subst h; exact ⟨Try.t3, by kernel_rfl, by kernel_rfl⟩
    | 2 => injection h with h; subst h; exact ⟨Try.t4, by kernel_rfl, by kernel_rfl⟩
    | 3 => injection h with h; subst h; exact ⟨Try.t6, by kernel_rfl, by kernel_rfl⟩
    | n + 4 => simp at h⟩
theorem tab9 : InfOK Try.prog 9 (.sc ((Value.string (ByteArray.mk #[])))) := ⟨Try.t9, TypeDesc.string, by kernel_rfl, by kernel_rfl, by kernel_rfl, by kernel_rfl, by kernel_rfl, by kernel_rfl, by first | kernel_rfl | trivial⟩
theorem tab10 : InfOK Try.prog 10 (.sc ((Value.string (ByteArray.mk #[])))) := ⟨Try.t10, TypeDesc.string, by kernel_rfl, by kernel_rfl, by kernel_rfl, by kernel_rfl, by kernel_rfl, by kernel_rfl, by first | kernel_rfl | trivial⟩
theorem tab11 : InfOK Try.prog 11 (.sc ((Value.string (ByteArray.mk #[])))) := ⟨Try.t11, TypeDesc.string, by kernel_rfl, by kernel_rfl, by kernel_rfl, by kernel_rfl, by kernel_rfl, by kernel_rfl, by first | kernel_rfl | trivial⟩
theorem tab12 : InfOK Try.prog 12 (.sc ((Value.int IntKind.u64 0))) := ⟨Try.t12, (TypeDesc.int IntKind.u64), by kernel_rfl, by kernel_rfl, by kernel_rfl, by kernel_rfl, by kernel_rfl, by kernel_rfl, by first | kernel_rfl | trivial⟩
theorem tab13 : InfOK Try.prog 13 (.st [(0, 1), (1, 1)] [(Value.string (ByteArray.mk #[])), (Value.int IntKind.u64 0)]) := ⟨Try.t13, #[(Field.mk "msg" 9 0 false "" "runtime" 0), (Field.mk "addr" 12 1 false "" "runtime" 16)], by kernel_rfl, by kernel_rfl, by kernel_rfl, by kernel_rfl, by kernel_rfl, by kernel_rfl, fun n f h => by
    match n with
    | 0 => injection h with h; subst h; exact ⟨Try.t9, by kernel_rfl, by kernel_rfl⟩
    | 1 => injection h with h; subst h; exact ⟨Try.t12, by kernel_rfl, by kernel_rfl⟩
    | n + 2 => simp at h⟩
theorem tab14 : InfOK Try.prog 14 (.st [(0, 1), (1, 1)] [(Value.string (ByteArray.mk #[])), (Value.int IntKind.u64 0)]) := ⟨Try.t14, #[(Field.mk "msg" 9 0 false "" "runtime" 0), (Field.mk "addr" 12 1 false "" "runtime" 16)], by kernel_rfl, by kernel_rfl, by kernel_rfl, by kernel_rfl, by kernel_rfl, by kernel_rfl, fun n f h => by
    match n with
    | 0 => injection h with h; subst h; exact ⟨Try.t9, by kernel_rfl, by kernel_rfl⟩
    | 1 => injection h with h; subst h; exact ⟨Try.t12, by kernel_rfl, by kernel_rfl⟩
    | n + 2 => simp at h⟩
theorem tab15 : InfOK Try.prog 15 (.sc ((Value.pointer none))) := ⟨Try.t15, (TypeDesc.pointer 41), by kernel_rfl, by kernel_rfl, by kernel_rfl, by kernel_rfl, by kernel_rfl, by kernel_rfl, by first | kernel_rfl | trivial⟩
theorem tab16 : InfOK Try.prog 16 (.sc ((Value.pointer none))) := ⟨Try.t16, (TypeDesc.pointer 44), by kernel_rfl, by kernel_rfl, by kernel_rfl, by kernel_rfl, by kernel_rfl, by kernel_rfl, by first | kernel_rfl | trivial⟩
theorem tab17 : InfOK Try.prog 17 (.sc ((Value.pointer none))) := ⟨Try.t17, (TypeDesc.pointer 54), by kernel_rfl, by kernel_rfl, by kernel_rfl, by kernel_rfl, by kernel_rfl, by kernel_rfl, by first | kernel_rfl | trivial⟩
theorem tab18 : InfOK Try.prog 18 (.st [(0, 1)] [(Value.pointer none)]) := ⟨Try.t18, #[(Field.mk "typ" 17 0 false "" "internal/runtime/maps" 0)], by kernel_rfl, by kernel_rfl, by kernel_rfl, by kernel_rfl, by kernel_rfl, by kernel_rfl, fun n f h => by
    match n with
    | 0 => injection h with h; subst h; exact ⟨Try.t17, by kernel_rfl, by kernel_rfl⟩
    | n + 1 => simp at h⟩
theorem tab19 : InfOK Try.prog 19 (.st [(0, 1)] [(Value.pointer none)]) := ⟨Try.t19, #[(Field.mk "typ" 17 0 false "" "internal/runtime/maps" 0)], by kernel_rfl, by kernel_rfl, by kernel_rfl, by kernel_rfl, by kernel_rfl, by kernel_rfl, fun n f h => by
    match n with
    | 0 => injection h with h; subst h; exact ⟨Try.t17, by kernel_rfl, by kernel_rfl⟩
    | n + 1 => simp at h⟩
theorem tab20 : InfOK Try.prog 20 (.sc (Value.nilIface)) := ⟨Try.t20, (TypeDesc.interface #[]), by kernel_rfl, by kernel_rfl, by kernel_rfl, by kernel_rfl, by kernel_rfl, by kernel_rfl, by first | kernel_rfl | trivial⟩
theorem tab21 : InfOK Try.prog 21 (.sc ((Value.int IntKind.i32 0))) := ⟨Try.t21, (TypeDesc.int IntKind.i32), by kernel_rfl, by kernel_rfl, by kernel_rfl, by kernel_rfl, by kernel_rfl, by kernel_rfl, by first | kernel_rfl | trivial⟩
theorem tab22 : InfOK Try.prog 22 (.sl 3 .int) := ⟨Try.t3, by kernel_rfl, by kernel_rfl, by kernel_rfl, ⟨(Value.int IntKind.i64 0), by kernel_rfl, by kernel_rfl⟩, by decide, by decide, Try.t22, by kernel_rfl, by kernel_rfl, by kernel_rfl⟩
theorem tab24 : InfOK Try.prog 24 (.sc (Value.nilFunc)) := ⟨Try.t24, (TypeDesc.func #[22, 3] #[22, 3] false), by kernel_rfl, by kernel_rfl, by kernel_rfl, by kernel_rfl, by kernel_rfl, by kernel_rfl, by first | kernel_rfl | trivial⟩
theorem tab25 : InfOK Try.prog 25 (.sc (Value.nilFunc)) := ⟨Try.t25, (TypeDesc.func #[22] #[22] false), by kernel_rfl, by kernel_rfl, by kernel_rfl, by kernel_rfl, by kernel_rfl, by kernel_rfl, by first | kernel_rfl | trivial⟩
theorem tab26 : InfOK Try.prog 26 (.sc (Value.nilFunc)) := ⟨Try.t26, (TypeDesc.func #[22, 22] #[4] false), by kernel_rfl, by kernel_rfl, by kernel_rfl, by kernel_rfl, by kernel_rfl, by kernel_rfl, by first | kernel_rfl | trivial⟩
theorem tab27 : InfOK Try.prog 27 (.sc (Value.nilFunc)) := ⟨Try.t27, (TypeDesc.func #[22, 3] #[3] false), by kernel_rfl, by kernel_rfl, by kernel_rfl, by kernel_rfl, by kernel_rfl, by kernel_rfl, by first | kernel_rfl | trivial⟩
theorem tab28 : InfOK Try.prog 28 (.sc (Value.nilFunc)) := ⟨Try.t28, (TypeDesc.func #[22, 3] #[4] false), by kernel_rfl, by kernel_rfl, by kernel_rfl, by kernel_rfl, by kernel_rfl, by kernel_rfl, by first | kernel_rfl | trivial⟩
theorem tab29 : InfOK Try.prog 29 (.sc (Value.nilFunc)) := ⟨Try.t29, (TypeDesc.func #[22] #[4] false), by kernel_rfl, by kernel_rfl, by kernel_rfl, by kernel_rfl, by kernel_rfl, by kernel_rfl, by first | kernel_rfl | trivial⟩
theorem tab30 : InfOK Try.prog 30 (.sc (Value.nilFunc)) := ⟨Try.t30, (TypeDesc.func #[3, 3, 3] #[4] false), by kernel_rfl, by kernel_rfl, by kernel_rfl, by kernel_rfl, by kernel_rfl, by kernel_rfl, by first | kernel_rfl | trivial⟩
theorem tab32 : InfOK Try.prog 32 (.sc (Value.nilFunc)) := ⟨Try.t32, (TypeDesc.func #[22, 3, 3] #[22, 4] false), by kernel_rfl, by kernel_rfl, by kernel_rfl, by kernel_rfl, by kernel_rfl, by kernel_rfl, by first | kernel_rfl | trivial⟩
theorem tab33 : InfOK Try.prog 33 (.sc (Value.nilFunc)) := ⟨Try.t33, (TypeDesc.func #[4] #[3] false), by kernel_rfl, by kernel_rfl, by kernel_rfl, by kernel_rfl, by kernel_rfl, by kernel_rfl, by first | kernel_rfl | trivial⟩
theorem tab34 : InfOK Try.prog 34 (.sc (Value.nilFunc)) := ⟨Try.t34, (TypeDesc.func #[22, 3, 32] #[22, 3] false), by kernel_rfl, by kernel_rfl, by kernel_rfl, by kernel_rfl, by kernel_rfl, by kernel_rfl, by first | kernel_rfl | trivial⟩
theorem tab35 : InfOK Try.prog 35 (.sc (Value.nilFunc)) := ⟨Try.t35, (TypeDesc.func #[22, 3, 3] #[4] false), by kernel_rfl, by kernel_rfl, by kernel_rfl, by kernel_rfl, by kernel_rfl, by kernel_rfl, by first | kernel_rfl | trivial⟩
theorem tab36 : InfOK Try.prog 36 (.sc (Value.nilFunc)) := ⟨Try.t36, (TypeDesc.func #[3] #[4] false), by kernel_rfl, by kernel_rfl, by kernel_rfl, by kernel_rfl, by kernel_rfl, by kernel_rfl, by first | kernel_rfl | trivial⟩
theorem tab37 : InfOK Try.prog 37 (.sc (Value.nilFunc)) := ⟨Try.t37, (TypeDesc.func #[22, 22, 38] #[22, 3] false), by kernel_rfl, by kernel_rfl, by kernel_rfl, by kernel_rfl, by kernel_rfl, by kernel_rfl, by first | kernel_rfl | trivial⟩
theorem tab38 : InfOK Try.prog 38 (.sc (Value.nilFunc)) := ⟨Try.t38, (TypeDesc.func #[22, 3] #[22, 4] false), by kernel_rfl, by kernel_rfl, by kernel_rfl, by kernel_rfl, by kernel_rfl, by kernel_rfl, by first | kernel_rfl | trivial⟩
theorem tab39 : InfOK Try.prog 39 (.sc (Value.nilFunc)) := ⟨Try.t39, (TypeDesc.func #[] #[9] false), by kernel_rfl, by kernel_rfl, by kernel_rfl, by kernel_rfl, by kernel_rfl, by kernel_rfl, by first | kernel_rfl | trivial⟩
theorem tab40 : InfOK Try.prog 40 (.st [(0, 1), (1, 1), (2, 1), (3, 1)] [(Value.pointer none), (Value.pointer none), (Value.pointer none), (Value.string (ByteArray.mk #[]))]) := ⟨Try.t40, #[(Field.mk "_interface" 17 0 false "" "runtime" 0), (Field.mk "concrete" 17 1 false "" "runtime" 8), (Field.mk "asserted" 17 2 false "" "runtime" 16), (Field.mk "missingMethod" 9 3 false "" "runtime" 24)], by kernel_rfl, by kernel_rfl, by kernel_rfl, by kernel_rfl, by kernel_rfl, by kernel_rfl, fun n f h => by
    match n with
    | 0 => injection h with h; subst h; exact ⟨Try.t17, by kernel_rfl, by kernel_rfl⟩
    | 1 => injection h with h; subst h; exact ⟨Try.t17, by kernel_rfl, by kernel_rfl⟩
    | 2 => injection h with h; subst h; exact ⟨Try.t17, by kernel_rfl, by kernel_rfl⟩
    | 3 => injection h with h; subst h; exact ⟨Try.t9, by kernel_rfl, by kernel_rfl⟩
    | n + 4 => simp at h⟩
theorem tab41 : InfOK Try.prog 41 (.st [(0, 1), (1, 1), (2, 1), (3, 1)] [(Value.pointer none), (Value.pointer none), (Value.pointer none), (Value.string (ByteArray.mk #[]))]) := ⟨Try.t41, #[(Field.mk "_interface" 17 0 false "" "runtime" 0), (Field.mk "concrete" 17 1 false "" "runtime" 8), (Field.mk "asserted" 17 2 false "" "runtime" 16), (Field.mk "missingMethod" 9 3 false "" "runtime" 24)], by kernel_rfl, by kernel_rfl, by kernel_rfl, by kernel_rfl, by kernel_rfl, by kernel_rfl, fun n f h => by
    match n with
    | 0 => injection h with h; subst h; exact ⟨Try.t17, by kernel_rfl, by kernel_rfl⟩
    | 1 => injection h with h; subst h; exact ⟨Try.t17, by kernel_rfl, by kernel_rfl⟩
    | 2 => injection h with h; subst h; exact ⟨Try.t17, by kernel_rfl, by kernel_rfl⟩
    | 3 => injection h with h; subst h; exact ⟨Try.t9, by kernel_rfl, by kernel_rfl⟩
    | n + 4 => simp at h⟩
theorem tab43 : InfOK Try.prog 43 (.st [(0, 0)] []) := ⟨Try.t43, #[(Field.mk "_" 42 0 false "" "runtime" 0)], by kernel_rfl, by kernel_rfl, by kernel_rfl, by kernel_rfl, by kernel_rfl, by kernel_rfl, fun n f h => by
    match n with
    | 0 => injection h with h; subst h; exact ⟨Try.t42, by kernel_rfl, by kernel_rfl⟩
    | n + 1 => simp at h⟩
theorem tab44 : InfOK Try.prog 44 (.st [(0, 0)] []) := ⟨Try.t44, #[(Field.mk "_" 42 0 false "" "runtime" 0)], by kernel_rfl, by kernel_rfl, by kernel_rfl, by kernel_rfl, by kernel_rfl, by kernel_rfl, fun n f h => by
    match n with
    | 0 => injection h with h; subst h; exact ⟨Try.t42, by kernel_rfl, by kernel_rfl⟩
    | n + 1 => simp at h⟩
theorem tab45 : InfOK Try.prog 45 (.sc (Value.nilFunc)) := ⟨Try.t45, (TypeDesc.func #[] #[3] false), by kernel_rfl, by kernel_rfl, by kernel_rfl, by kernel_rfl, by kernel_rfl, by kernel_rfl, by first | kernel_rfl | trivial⟩
theorem tab46 : InfOK Try.prog 46 (.sc ((Value.int IntKind.u32 0))) := ⟨Try.t46, (TypeDesc.int IntKind.u32), by kernel_rfl, by kernel_rfl, by kernel_rfl, by kernel_rfl, by kernel_rfl, by kernel_rfl, by first | kernel_rfl | trivial⟩
theorem tab47 : InfOK Try.prog 47 (.sc ((Value.int IntKind.u8 0))) := ⟨Try.t47, (TypeDesc.int IntKind.u8), by kernel_rfl, by kernel_rfl, by kernel_rfl, by kernel_rfl, by kernel_rfl, by kernel_rfl, by first | kernel_rfl | trivial⟩
theorem tab48 : InfOK Try.prog 48 (.sc ((Value.int IntKind.u8 0))) := ⟨Try.t48, (TypeDesc.int IntKind.u8), by kernel_rfl, by kernel_rfl, by kernel_rfl, by kernel_rfl, by kernel_rfl, by kernel_rfl, by first | kernel_rfl | trivial⟩
theorem tab49 : InfOK Try.prog 49 (.sc (Value.nilFunc)) := ⟨Try.t49, (TypeDesc.func #[55, 55] #[4] false), by kernel_rfl, by kernel_rfl, by kernel_rfl, by kernel_rfl, by kernel_rfl, by kernel_rfl, by first | kernel_rfl | trivial⟩
theorem tab50 : InfOK Try.prog 50 (.sc ((Value.pointer none))) := ⟨Try.t50, (TypeDesc.pointer 5), by kernel_rfl, by kernel_rfl, by kernel_rfl, by kernel_rfl, by kernel_rfl, by kernel_rfl, by first | kernel_rfl | trivial⟩
theorem tab51 : InfOK Try.prog 51 (.sc ((Value.int IntKind.i32 0))) := ⟨Try.t51, (TypeDesc.int IntKind.i32), by kernel_rfl, by kernel_rfl, by kernel_rfl, by kernel_rfl, by kernel_rfl, by kernel_rfl, by first | kernel_rfl | trivial⟩
theorem tab52 : InfOK Try.prog 52 (.sc ((Value.int IntKind.i32 0))) := ⟨Try.t52, (TypeDesc.int IntKind.i32), by kernel_rfl, by kernel_rfl, by kernel_rfl, by kernel_rfl, by kernel_rfl, by kernel_rfl, by first | kernel_rfl | trivial⟩
theorem tab53 : InfOK Try.prog 53 (.st [(0, 1), (1, 1), (2, 1), (3, 1), (4, 1), (5, 1), (6, 1), (7, 1), (8, 1), (9, 1), (10, 1)] [(Value.int IntKind.u64 0), (Value.int IntKind.u64 0), (Value.int IntKind.u32 0), (Value.int IntKind.u8 0), (Value.int IntKind.u8 0), (Value.int IntKind.u8 0), (Value.int IntKind.u8 0), Value.nilFunc, (Value.pointer none), (Value.int IntKind.i32 0), (Value.int IntKind.i32 0)]) := ⟨Try.t53, #[(Field.mk "Size_" 12 0 false "" "" 0), (Field.mk "PtrBytes" 12 1 false "" "" 8), (Field.mk "Hash" 46 2 false "" "" 16), (Field.mk "TFlag" 47 3 false "" "" 20), (Field.mk "Align_" 5 4 false "" "" 21), (Field.mk "FieldAlign_" 5 5 false "" "" 22), (Field.mk "Kind_" 48 6 false "" "" 23), (Field.mk "Equal" 49 7 false "" "" 24), (Field.mk "GCData" 50 8 false "" "" 32), (Field.mk "Str" 51 9 false "" "" 40), (Field.mk "PtrToThis" 52 10 false "" "" 44)], by kernel_rfl, by kernel_rfl, by kernel_rfl, by kernel_rfl, by kernel_rfl, by kernel_rfl, fun n f h => by
    match n with
    | 0 => injection h with h; subst h; exact ⟨Try.t12, by kernel_rfl, by kernel_rfl⟩
    | 1 => injection h with h; subst h; exact ⟨Try.t12, by kernel_rfl, by kernel_rfl⟩
    | 2 => injection h with h; subst h; exact ⟨Try.t46, by kernel_rfl, by kernel_rfl⟩
    | 3 => injection h with h; subst h; exact ⟨Try.t47, by kernel_rfl, by kernel_rfl⟩
    | 4 => injection h with h; subst h; exact ⟨Try.t5, by kernel_rfl, by kernel_rfl⟩
    | 5 => injection h with h; subst h; exact ⟨Try.t5, by kernel_rfl, by kernel_rfl⟩
    | 6 => injection h with h; subst h; exact ⟨Try.t48, by kernel_rfl, by kernel_rfl⟩
    | 7 => injection h with h; subst h; exact ⟨Try.t49, by kernel_rfl, by kernel_rfl⟩
    | 8 => injection h with h; subst h; exact ⟨Try.t50, by kernel_rfl, by kernel_rfl⟩
    | 9 => injection h with h; subst h; exact ⟨Try.t51, by kernel_rfl, by kernel_rfl⟩
    | 10 => injection h with h; subst h; exact ⟨Try.t52, by kernel_rfl, by kernel_rfl⟩
    | n + 11 => simp at h⟩
theorem tab54 : InfOK Try.prog 54 (.st [(0, 1), (1, 1), (2, 1), (3, 1), (4, 1), (5, 1), (6, 1), (7, 1), (8, 1), (9, 1), (10, 1)] [(Value.int IntKind.u64 0), (Value.int IntKind.u64 0), (Value.int IntKind.u32 0), (Value.int IntKind.u8 0), (Value.int IntKind.u8 0), (Value.int IntKind.u8 0), (Value.int IntKind.u8 0), Value.nilFunc, (Value.pointer none), (Value.int IntKind.i32 0), (Value.int IntKind.i32 0)]) := ⟨Try.t54, #[(Field.mk "Size_" 12 0 false "" "" 0), (Field.mk "PtrBytes" 12 1 false "" "" 8), (Field.mk "Hash" 46 2 false "" "" 16), (Field.mk "TFlag" 47 3 false "" "" 20), (Field.mk "Align_" 5 4 false "" "" 21), (Field.mk "FieldAlign_" 5 5 false "" "" 22), (Field.mk "Kind_" 48 6 false "" "" 23), (Field.mk "Equal" 49 7 false "" "" 24), (Field.mk "GCData" 50 8 false "" "" 32), (Field.mk "Str" 51 9 false "" "" 40), (Field.mk "PtrToThis" 52 10 false "" "" 44)], by kernel_rfl, by kernel_rfl, by kernel_rfl, by kernel_rfl, by kernel_rfl, by kernel_rfl, fun n f h => by
    match n with
    | 0 => injection h with h; subst h; exact ⟨Try.t12, by kernel_rfl, by kernel_rfl⟩
    | 1 => injection h with h; subst h; exact ⟨Try.t12, by kernel_rfl, by kernel_rfl⟩
    | 2 => injection h with h; subst h; exact ⟨Try.t46, by kernel_rfl, by kernel_rfl⟩
    | 3 => injection h with h; subst h; exact ⟨Try.t47, by kernel_rfl, by kernel_rfl⟩
    | 4 => injection h with h; subst h; exact ⟨Try.t5, by kernel_rfl, by kernel_rfl⟩
    | 5 => injection h with h; subst h; exact ⟨Try.t5, by kernel_rfl, by kernel_rfl⟩
    | 6 => injection h with h; subst h; exact ⟨Try.t48, by kernel_rfl, by kernel_rfl⟩
    | 7 => injection h with h; subst h; exact ⟨Try.t49, by kernel_rfl, by kernel_rfl⟩
    | 8 => injection h with h; subst h; exact ⟨Try.t50, by kernel_rfl, by kernel_rfl⟩
    | 9 => injection h with h; subst h; exact ⟨Try.t51, by kernel_rfl, by kernel_rfl⟩
    | 10 => injection h with h; subst h; exact ⟨Try.t52, by kernel_rfl, by kernel_rfl⟩
    | n + 11 => simp at h⟩
theorem tab55 : InfOK Try.prog 55 (.sc ((Value.pointer none))) := ⟨Try.t55, TypeDesc.unsafePointer, by kernel_rfl, by kernel_rfl, by kernel_rfl, by kernel_rfl, by kernel_rfl, by kernel_rfl, by first | kernel_rfl | trivial⟩
theorem tabOK : TabOK Try.prog TT := tabOK_of ⟨tab1, tab2, tab3, tab4, tab5, tab6, tab7, tab8, tab9, tab10, tab11, tab12, tab13, tab14, tab15, tab16, tab17, tab18, tab19, tab20, tab21, tab22, tab24, tab25, tab26, tab27, tab28, tab29, tab30, tab32, tab33, tab34, tab35, tab36, tab37, tab38, tab39, tab40, tab41, tab43, tab44, tab45, tab46, tab47, tab48, tab49, tab50, tab51, tab52, tab53, tab54, tab55, trivial⟩
theorem mixed : Try.prog.follows .mixedOrders = true := by kernel_rfl
end Go.Ev
