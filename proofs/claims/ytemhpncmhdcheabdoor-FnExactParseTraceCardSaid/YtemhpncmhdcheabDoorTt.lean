/- The types of the program, as the evaluator wants them. No statement is proved here. -/
import Derived.Test.YtemhpncmhdcheabDoorEvT
import Derived.Test.YtemhpncmhdcheabDoorChecked
namespace Go.Ev
set_option linter.unusedVariables false
set_option linter.unusedSimpArgs false
open Go Go.Proofs
def TT : Tab := [(1, .sc (Value.nilFunc)),
  (2, .sc ((Value.int IntKind.i64 0))),
  (3, .sc ((Value.int IntKind.i64 0))),
  (4, .sc ((Value.bool false))),
  (5, .sc ((Value.int IntKind.u8 0))),
  (6, .sc ((Value.int IntKind.u8 0))),
  (7, .st [(0, 1), (1, 1), (2, 1), (3, 1)] [(Value.int IntKind.i64 0), (Value.int IntKind.i64 0), (Value.bool false), (Value.int IntKind.u8 0)]),
  (8, .st [(0, 1), (1, 1), (2, 1), (3, 1)] [(Value.int IntKind.i64 0), (Value.int IntKind.i64 0), (Value.bool false), (Value.int IntKind.u8 0)]),
  (9, .sc ((Value.string (ByteArray.mk #[])))),
  (10, .sc ((Value.string (ByteArray.mk #[])))),
  (11, .sc ((Value.string (ByteArray.mk #[])))),
  (12, .sc ((Value.int IntKind.u64 0))),
  (13, .st [(0, 1), (1, 1)] [(Value.string (ByteArray.mk #[])), (Value.int IntKind.u64 0)]),
  (14, .st [(0, 1), (1, 1)] [(Value.string (ByteArray.mk #[])), (Value.int IntKind.u64 0)]),
  (15, .sc ((Value.pointer none))),
  (16, .sc ((Value.pointer none))),
  (17, .sc ((Value.pointer none))),
  (18, .st [(0, 1)] [(Value.pointer none)]),
  (19, .st [(0, 1)] [(Value.pointer none)]),
  (20, .sc (Value.nilIface)),
  (21, .sc ((Value.int IntKind.i32 0))),
  (22, .sl 5 .u8),
  (23, .sl 3 .int),
  (24, .sc (Value.nilFunc)),
  (25, .sc (Value.nilFunc)),
  (27, .sc (Value.nilFunc)),
  (28, .sc (Value.nilFunc)),
  (29, .sc (Value.nilFunc)),
  (30, .sc (Value.nilFunc)),
  (31, .sc (Value.nilFunc)),
  (32, .sc (Value.nilFunc)),
  (33, .sc (Value.nilFunc)),
  (34, .sc (Value.nilFunc)),
  (35, .sc (Value.nilFunc)),
  (36, .sc ((Value.pointer none))),
  (37, .sc (Value.nilFunc)),
  (38, .sl 9 .str),
  (39, .sc (Value.nilFunc)),
  (40, .sc (Value.nilFunc)),
  (41, .sc (Value.nilFunc)),
  (42, .sc (Value.nilFunc)),
  (43, .sc (Value.nilFunc)),
  (44, .sc (Value.nilFunc)),
  (46, .sc (Value.nilFunc)),
  (47, .sc (Value.nilFunc)),
  (48, .sc (Value.nilFunc)),
  (49, .sc (Value.nilFunc)),
  (51, .sc (Value.nilFunc)),
  (52, .sc (Value.nilFunc)),
  (53, .sc (Value.nilFunc)),
  (54, .sc (Value.nilFunc)),
  (55, .st [(0, 1), (1, 1)] [(Value.slice none 0 0), (Value.int IntKind.i64 0)]),
  (56, .st [(0, 1), (1, 1)] [(Value.slice none 0 0), (Value.int IntKind.i64 0)]),
  (57, .sc (Value.nilFunc)),
  (58, .sc ((Value.pointer none))),
  (59, .st [(0, 1), (1, 1)] [(Value.pointer none), (Value.slice none 0 0)]),
  (60, .st [(0, 1), (1, 1)] [(Value.pointer none), (Value.slice none 0 0)]),
  (61, .sc (Value.nilFunc)),
  (62, .sc (Value.nilIface)),
  (63, .sc (Value.nilIface)),
  (65, .sc (Value.nilFunc)),
  (66, .sc (Value.nilFunc)),
  (67, .sc (Value.nilFunc)),
  (68, .sc (Value.nilFunc)),
  (70, .sc (Value.nilFunc)),
  (71, .sc (Value.nilFunc)),
  (72, .sc ((Value.pointer none))),
  (74, .sc (Value.nilFunc)),
  (75, .sc (Value.nilFunc)),
  (76, .sc (Value.nilFunc)),
  (77, .sc (Value.nilFunc)),
  (78, .sc ((Value.pointer none))),
  (79, .sc (Value.nilFunc)),
  (80, .sc (Value.nilFunc)),
  (81, .sc ((Value.int IntKind.i64 0))),
  (83, .sc (Value.nilFunc)),
  (84, .sc ((Value.pointer none))),
  (85, .sc (Value.nilFunc)),
  (86, .sc (Value.nilFunc)),
  (88, .sc ((Value.int IntKind.u64 0))),
  (89, .sc (Value.nilFunc)),
  (90, .sc (Value.nilFunc)),
  (92, .sc (Value.nilFunc)),
  (94, .sc ((Value.int IntKind.u64 0))),
  (95, .st [(0, 1), (1, 1)] [(Value.int IntKind.u8 0), (Value.int IntKind.u8 0)]),
  (96, .st [(0, 1), (1, 1)] [(Value.int IntKind.u8 0), (Value.int IntKind.u8 0)]),
  (98, .sc (Value.nilFunc)),
  (100, .sc (Value.nilFunc)),
  (101, .sc (Value.nilFunc)),
  (102, .st [(0, 1), (1, 1), (2, 1)] [(Value.string (ByteArray.mk #[])), (Value.string (ByteArray.mk #[])), Value.nilIface]),
  (103, .st [(0, 1), (1, 1), (2, 1)] [(Value.string (ByteArray.mk #[])), (Value.string (ByteArray.mk #[])), Value.nilIface]),
  (104, .sc (Value.nilFunc)),
  (105, .sc (Value.nilFunc)),
  (107, .sc ((Value.int IntKind.u32 0))),
  (109, .sc (Value.nilFunc)),
  (111, .sc (Value.nilFunc)),
  (112, .sc (Value.nilFunc)),
  (113, .sc ((Value.pointer none))),
  (114, .st [(0, 1)] [(Value.string (ByteArray.mk #[]))]),
  (115, .st [(0, 1)] [(Value.string (ByteArray.mk #[]))]),
  (116, .sc (Value.nilFunc)),
  (119, .st [(0, 1), (1, 1), (2, 1), (3, 1)] [(Value.pointer none), (Value.pointer none), (Value.pointer none), (Value.string (ByteArray.mk #[]))]),
  (120, .st [(0, 1), (1, 1), (2, 1), (3, 1)] [(Value.pointer none), (Value.pointer none), (Value.pointer none), (Value.string (ByteArray.mk #[]))]),
  (122, .st [(0, 0)] []),
  (123, .st [(0, 0)] []),
  (124, .sc (Value.nilFunc)),
  (125, .sc ((Value.int IntKind.u8 0))),
  (126, .sc ((Value.int IntKind.u8 0))),
  (127, .sc (Value.nilFunc)),
  (128, .sc ((Value.int IntKind.i32 0))),
  (129, .sc ((Value.int IntKind.i32 0))),
  (130, .st [(0, 1), (1, 1), (2, 1), (3, 1), (4, 1), (5, 1), (6, 1), (7, 1), (8, 1), (9, 1), (10, 1)] [(Value.int IntKind.u64 0), (Value.int IntKind.u64 0), (Value.int IntKind.u32 0), (Value.int IntKind.u8 0), (Value.int IntKind.u8 0), (Value.int IntKind.u8 0), (Value.int IntKind.u8 0), Value.nilFunc, (Value.pointer none), (Value.int IntKind.i32 0), (Value.int IntKind.i32 0)]),
  (131, .st [(0, 1), (1, 1), (2, 1), (3, 1), (4, 1), (5, 1), (6, 1), (7, 1), (8, 1), (9, 1), (10, 1)] [(Value.int IntKind.u64 0), (Value.int IntKind.u64 0), (Value.int IntKind.u32 0), (Value.int IntKind.u8 0), (Value.int IntKind.u8 0), (Value.int IntKind.u8 0), (Value.int IntKind.u8 0), Value.nilFunc, (Value.pointer none), (Value.int IntKind.i32 0), (Value.int IntKind.i32 0)])]
theorem tab1 : InfOK Tryd.prog 1 (.sc (Value.nilFunc)) := ⟨Tryd.t1, (TypeDesc.func #[] #[] false), by kernel_rfl, by kernel_rfl, by kernel_rfl, by kernel_rfl, by kernel_rfl, by kernel_rfl, by first | kernel_rfl | trivial⟩
theorem tab2 : InfOK Tryd.prog 2 (.sc ((Value.int IntKind.i64 0))) := ⟨Tryd.t2, (TypeDesc.int IntKind.i64), by kernel_rfl, by kernel_rfl, by kernel_rfl, by kernel_rfl, by kernel_rfl, by kernel_rfl, by first | kernel_rfl | trivial⟩
theorem tab3 : InfOK Tryd.prog 3 (.sc ((Value.int IntKind.i64 0))) := ⟨Tryd.t3, (TypeDesc.int IntKind.i64), by kernel_rfl, by kernel_rfl, by kernel_rfl, by kernel_rfl, by kernel_rfl, by kernel_rfl, by first | kernel_rfl | trivial⟩
theorem tab4 : InfOK Tryd.prog 4 (.sc ((Value.bool false))) := ⟨Tryd.t4, TypeDesc.bool, by kernel_rfl, by kernel_rfl, by kernel_rfl, by kernel_rfl, by kernel_rfl, by kernel_rfl, by first | kernel_rfl | trivial⟩
theorem tab5 : InfOK Tryd.prog 5 (.sc ((Value.int IntKind.u8 0))) := ⟨Tryd.t5, (TypeDesc.int IntKind.u8), by kernel_rfl, by kernel_rfl, by kernel_rfl, by kernel_rfl, by kernel_rfl, by kernel_rfl, by first | kernel_rfl | trivial⟩
theorem tab6 : InfOK Tryd.prog 6 (.sc ((Value.int IntKind.u8 0))) := ⟨Tryd.t6, (TypeDesc.int IntKind.u8), by kernel_rfl, by kernel_rfl, by kernel_rfl, by kernel_rfl, by kernel_rfl, by kernel_rfl, by first | kernel_rfl | trivial⟩
theorem tab7 : InfOK Tryd.prog 7 (.st [(0, 1), (1, 1), (2, 1), (3, 1)] [(Value.int IntKind.i64 0), (Value.int IntKind.i64 0), (Value.bool false), (Value.int IntKind.u8 0)]) := ⟨Tryd.t7, #[(Field.mk "x" 2 0 false "" "runtime" 0), (Field.mk "y" 3 1 false "" "runtime" 8), (Field.mk "signed" 4 2 false "" "runtime" 16), (Field.mk "code" 6 3 false "" "runtime" 17)], by kernel_rfl, by kernel_rfl, by kernel_rfl, by kernel_rfl, by kernel_rfl, by kernel_rfl, fun n f h => by
    match n with
    | 0 => injection h with h; subst h; exact ⟨Tryd.t2, by kernel_rfl, by kernel_rfl, _, Tryd.underlying2, fun _ => rfl⟩
    | 1 => injection h with h; subst h; exact ⟨Tryd.t3, by kernel_rfl, by kernel_rfl, _, Tryd.underlying3, fun _ => rfl⟩
    | 2 => injection h with h; subst h; exact ⟨Tryd.t4, by kernel_rfl, by kernel_rfl, _, Tryd.underlying4, fun _ => rfl⟩
    | 3 => injection h with h; subst h; exact ⟨Tryd.t6, by kernel_rfl, by kernel_rfl, _, Tryd.underlying6, fun _ => rfl⟩
    | n + 4 => simp at h⟩
theorem tab8 : InfOK Tryd.prog 8 (.st [(0, 1), (1, 1), (2, 1), (3, 1)] [(Value.int IntKind.i64 0), (Value.int IntKind.i64 0), (Value.bool false), (Value.int IntKind.u8 0)]) := ⟨Tryd.t8, #[(Field.mk "x" 2 0 false "" "runtime" 0), (Field.mk "y" 3 1 false "" "runtime" 8), (Field.mk "signed" 4 2 false "" "runtime" 16), (Field.mk "code" 6 3 false "" "runtime" 17)], by kernel_rfl, by kernel_rfl, by kernel_rfl, by kernel_rfl, by kernel_rfl, by kernel_rfl, fun n f h => by
    match n with
    | 0 => injection h with h; subst h; exact ⟨Tryd.t2, by kernel_rfl, by kernel_rfl, _, Tryd.underlying2, fun _ => rfl⟩
    | 1 => injection h with h; subst h; exact ⟨Tryd.t3, by kernel_rfl, by kernel_rfl, _, Tryd.underlying3, fun _ => rfl⟩
    | 2 => injection h with h; subst h; exact ⟨Tryd.t4, by kernel_rfl, by kernel_rfl, _, Tryd.underlying4, fun _ => rfl⟩
    | 3 => injection h with h; subst h; exact ⟨Tryd.t6, by kernel_rfl, by kernel_rfl, _, Tryd.underlying6, fun _ => rfl⟩
    | n + 4 => simp at h⟩
theorem tab9 : InfOK Tryd.prog 9 (.sc ((Value.string (ByteArray.mk #[])))) := ⟨Tryd.t9, TypeDesc.string, by kernel_rfl, by kernel_rfl, by kernel_rfl, by kernel_rfl, by kernel_rfl, by kernel_rfl, by first | kernel_rfl | trivial⟩
theorem tab10 : InfOK Tryd.prog 10 (.sc ((Value.string (ByteArray.mk #[])))) := ⟨Tryd.t10, TypeDesc.string, by kernel_rfl, by kernel_rfl, by kernel_rfl, by kernel_rfl, by kernel_rfl, by kernel_rfl, by first | kernel_rfl | trivial⟩
theorem tab11 : InfOK Tryd.prog 11 (.sc ((Value.string (ByteArray.mk #[])))) := ⟨Tryd.t11, TypeDesc.string, by kernel_rfl, by kernel_rfl, by kernel_rfl, by kernel_rfl, by kernel_rfl, by kernel_rfl, by first | kernel_rfl | trivial⟩
theorem tab12 : InfOK Tryd.prog 12 (.sc ((Value.int IntKind.u64 0))) := ⟨Tryd.t12, (TypeDesc.int IntKind.u64), by kernel_rfl, by kernel_rfl, by kernel_rfl, by kernel_rfl, by kernel_rfl, by kernel_rfl, by first | kernel_rfl | trivial⟩
theorem tab13 : InfOK Tryd.prog 13 (.st [(0, 1), (1, 1)] [(Value.string (ByteArray.mk #[])), (Value.int IntKind.u64 0)]) := ⟨Tryd.t13, #[(Field.mk "msg" 9 0 false "" "runtime" 0), (Field.mk "addr" 12 1 false "" "runtime" 16)], by kernel_rfl, by kernel_rfl, by kernel_rfl, by kernel_rfl, by kernel_rfl, by kernel_rfl, fun n f h => by
    match n with
    | 0 => injection h with h; subst h; exact ⟨Tryd.t9, by kernel_rfl, by kernel_rfl, _, Tryd.underlying9, fun _ => rfl⟩
    | 1 => injection h with h; subst h; exact ⟨Tryd.t12, by kernel_rfl, by kernel_rfl, _, Tryd.underlying12, fun _ => rfl⟩
    | n + 2 => simp at h⟩
theorem tab14 : InfOK Tryd.prog 14 (.st [(0, 1), (1, 1)] [(Value.string (ByteArray.mk #[])), (Value.int IntKind.u64 0)]) := ⟨Tryd.t14, #[(Field.mk "msg" 9 0 false "" "runtime" 0), (Field.mk "addr" 12 1 false "" "runtime" 16)], by kernel_rfl, by kernel_rfl, by kernel_rfl, by kernel_rfl, by kernel_rfl, by kernel_rfl, fun n f h => by
    match n with
    | 0 => injection h with h; subst h; exact ⟨Tryd.t9, by kernel_rfl, by kernel_rfl, _, Tryd.underlying9, fun _ => rfl⟩
    | 1 => injection h with h; subst h; exact ⟨Tryd.t12, by kernel_rfl, by kernel_rfl, _, Tryd.underlying12, fun _ => rfl⟩
    | n + 2 => simp at h⟩
theorem tab15 : InfOK Tryd.prog 15 (.sc ((Value.pointer none))) := ⟨Tryd.t15, (TypeDesc.pointer 120), by kernel_rfl, by kernel_rfl, by kernel_rfl, by kernel_rfl, by kernel_rfl, by kernel_rfl, by first | kernel_rfl | trivial⟩
theorem tab16 : InfOK Tryd.prog 16 (.sc ((Value.pointer none))) := ⟨Tryd.t16, (TypeDesc.pointer 123), by kernel_rfl, by kernel_rfl, by kernel_rfl, by kernel_rfl, by kernel_rfl, by kernel_rfl, by first | kernel_rfl | trivial⟩
theorem tab17 : InfOK Tryd.prog 17 (.sc ((Value.pointer none))) := ⟨Tryd.t17, (TypeDesc.pointer 131), by kernel_rfl, by kernel_rfl, by kernel_rfl, by kernel_rfl, by kernel_rfl, by kernel_rfl, by first | kernel_rfl | trivial⟩
theorem tab18 : InfOK Tryd.prog 18 (.st [(0, 1)] [(Value.pointer none)]) := ⟨Tryd.t18, #[(Field.mk "typ" 17 0 false "" "internal/runtime/maps" 0)], by kernel_rfl, by kernel_rfl, by kernel_rfl, by kernel_rfl, by kernel_rfl, by kernel_rfl, fun n f h => by
    match n with
    | 0 => injection h with h; subst h; exact ⟨Tryd.t17, by kernel_rfl, by kernel_rfl, _, Tryd.underlying17, fun _ => rfl⟩
    | n + 1 => simp at h⟩
theorem tab19 : InfOK Tryd.prog 19 (.st [(0, 1)] [(Value.pointer none)]) := ⟨Tryd.t19, #[(Field.mk "typ" 17 0 false "" "internal/runtime/maps" 0)], by kernel_rfl, by kernel_rfl, by kernel_rfl, by kernel_rfl, by kernel_rfl, by kernel_rfl, fun n f h => by
    match n with
    | 0 => injection h with h; subst h; exact ⟨Tryd.t17, by kernel_rfl, by kernel_rfl, _, Tryd.underlying17, fun _ => rfl⟩
    | n + 1 => simp at h⟩
theorem tab20 : InfOK Tryd.prog 20 (.sc (Value.nilIface)) := ⟨Tryd.t20, (TypeDesc.interface #[]), by kernel_rfl, by kernel_rfl, by kernel_rfl, by kernel_rfl, by kernel_rfl, by kernel_rfl, by first | kernel_rfl | trivial⟩
theorem tab21 : InfOK Tryd.prog 21 (.sc ((Value.int IntKind.i32 0))) := ⟨Tryd.t21, (TypeDesc.int IntKind.i32), by kernel_rfl, by kernel_rfl, by kernel_rfl, by kernel_rfl, by kernel_rfl, by kernel_rfl, by first | kernel_rfl | trivial⟩
theorem tab22 : InfOK Tryd.prog 22 (.sl 5 .u8) := ⟨Tryd.t5, by kernel_rfl, by kernel_rfl, by kernel_rfl, ⟨(Value.int IntKind.u8 0), by kernel_rfl, by kernel_rfl⟩, by decide, by decide, Tryd.t22, by kernel_rfl, by kernel_rfl, by kernel_rfl⟩
theorem tab23 : InfOK Tryd.prog 23 (.sl 3 .int) := ⟨Tryd.t3, by kernel_rfl, by kernel_rfl, by kernel_rfl, ⟨(Value.int IntKind.i64 0), by kernel_rfl, by kernel_rfl⟩, by decide, by decide, Tryd.t23, by kernel_rfl, by kernel_rfl, by kernel_rfl⟩
theorem tab24 : InfOK Tryd.prog 24 (.sc (Value.nilFunc)) := ⟨Tryd.t24, (TypeDesc.func #[22] #[23] false), by kernel_rfl, by kernel_rfl, by kernel_rfl, by kernel_rfl, by kernel_rfl, by kernel_rfl, by first | kernel_rfl | trivial⟩
theorem tab25 : InfOK Tryd.prog 25 (.sc (Value.nilFunc)) := ⟨Tryd.t25, (TypeDesc.func #[23] #[9] false), by kernel_rfl, by kernel_rfl, by kernel_rfl, by kernel_rfl, by kernel_rfl, by kernel_rfl, by first | kernel_rfl | trivial⟩
theorem tab27 : InfOK Tryd.prog 27 (.sc (Value.nilFunc)) := ⟨Tryd.t27, (TypeDesc.func #[9] #[23, 4] false), by kernel_rfl, by kernel_rfl, by kernel_rfl, by kernel_rfl, by kernel_rfl, by kernel_rfl, by first | kernel_rfl | trivial⟩
theorem tab28 : InfOK Tryd.prog 28 (.sc (Value.nilFunc)) := ⟨Tryd.t28, (TypeDesc.func #[23, 23] #[4] false), by kernel_rfl, by kernel_rfl, by kernel_rfl, by kernel_rfl, by kernel_rfl, by kernel_rfl, by first | kernel_rfl | trivial⟩
theorem tab29 : InfOK Tryd.prog 29 (.sc (Value.nilFunc)) := ⟨Tryd.t29, (TypeDesc.func #[22] #[4] false), by kernel_rfl, by kernel_rfl, by kernel_rfl, by kernel_rfl, by kernel_rfl, by kernel_rfl, by first | kernel_rfl | trivial⟩
theorem tab30 : InfOK Tryd.prog 30 (.sc (Value.nilFunc)) := ⟨Tryd.t30, (TypeDesc.func #[22] #[9] false), by kernel_rfl, by kernel_rfl, by kernel_rfl, by kernel_rfl, by kernel_rfl, by kernel_rfl, by first | kernel_rfl | trivial⟩
theorem tab31 : InfOK Tryd.prog 31 (.sc (Value.nilFunc)) := ⟨Tryd.t31, (TypeDesc.func #[23] #[4] false), by kernel_rfl, by kernel_rfl, by kernel_rfl, by kernel_rfl, by kernel_rfl, by kernel_rfl, by first | kernel_rfl | trivial⟩
theorem tab32 : InfOK Tryd.prog 32 (.sc (Value.nilFunc)) := ⟨Tryd.t32, (TypeDesc.func #[23] #[23] false), by kernel_rfl, by kernel_rfl, by kernel_rfl, by kernel_rfl, by kernel_rfl, by kernel_rfl, by first | kernel_rfl | trivial⟩
theorem tab33 : InfOK Tryd.prog 33 (.sc (Value.nilFunc)) := ⟨Tryd.t33, (TypeDesc.func #[23, 3] #[3] false), by kernel_rfl, by kernel_rfl, by kernel_rfl, by kernel_rfl, by kernel_rfl, by kernel_rfl, by first | kernel_rfl | trivial⟩
theorem tab34 : InfOK Tryd.prog 34 (.sc (Value.nilFunc)) := ⟨Tryd.t34, (TypeDesc.func #[9] #[4] false), by kernel_rfl, by kernel_rfl, by kernel_rfl, by kernel_rfl, by kernel_rfl, by kernel_rfl, by first | kernel_rfl | trivial⟩
theorem tab35 : InfOK Tryd.prog 35 (.sc (Value.nilFunc)) := ⟨Tryd.t35, (TypeDesc.func #[36] #[23] false), by kernel_rfl, by kernel_rfl, by kernel_rfl, by kernel_rfl, by kernel_rfl, by kernel_rfl, by first | kernel_rfl | trivial⟩
theorem tab36 : InfOK Tryd.prog 36 (.sc ((Value.pointer none))) := ⟨Tryd.t36, (TypeDesc.pointer 56), by kernel_rfl, by kernel_rfl, by kernel_rfl, by kernel_rfl, by kernel_rfl, by kernel_rfl, by first | kernel_rfl | trivial⟩
theorem tab37 : InfOK Tryd.prog 37 (.sc (Value.nilFunc)) := ⟨Tryd.t37, (TypeDesc.func #[22] #[36] false), by kernel_rfl, by kernel_rfl, by kernel_rfl, by kernel_rfl, by kernel_rfl, by kernel_rfl, by first | kernel_rfl | trivial⟩
theorem tab38 : InfOK Tryd.prog 38 (.sl 9 .str) := ⟨Tryd.t9, by kernel_rfl, by kernel_rfl, by kernel_rfl, ⟨(Value.string (ByteArray.mk #[])), by kernel_rfl, by kernel_rfl⟩, by decide, by decide, Tryd.t38, by kernel_rfl, by kernel_rfl, by kernel_rfl⟩
theorem tab39 : InfOK Tryd.prog 39 (.sc (Value.nilFunc)) := ⟨Tryd.t39, (TypeDesc.func #[23] #[3] false), by kernel_rfl, by kernel_rfl, by kernel_rfl, by kernel_rfl, by kernel_rfl, by kernel_rfl, by first | kernel_rfl | trivial⟩
theorem tab40 : InfOK Tryd.prog 40 (.sc (Value.nilFunc)) := ⟨Tryd.t40, (TypeDesc.func #[3, 3] #[9] false), by kernel_rfl, by kernel_rfl, by kernel_rfl, by kernel_rfl, by kernel_rfl, by kernel_rfl, by first | kernel_rfl | trivial⟩
theorem tab41 : InfOK Tryd.prog 41 (.sc (Value.nilFunc)) := ⟨Tryd.t41, (TypeDesc.func #[38, 9] #[9] false), by kernel_rfl, by kernel_rfl, by kernel_rfl, by kernel_rfl, by kernel_rfl, by kernel_rfl, by first | kernel_rfl | trivial⟩
theorem tab42 : InfOK Tryd.prog 42 (.sc (Value.nilFunc)) := ⟨Tryd.t42, (TypeDesc.func #[34] #[] false), by kernel_rfl, by kernel_rfl, by kernel_rfl, by kernel_rfl, by kernel_rfl, by kernel_rfl, by first | kernel_rfl | trivial⟩
theorem tab43 : InfOK Tryd.prog 43 (.sc (Value.nilFunc)) := ⟨Tryd.t43, (TypeDesc.func #[34] #[] false), by kernel_rfl, by kernel_rfl, by kernel_rfl, by kernel_rfl, by kernel_rfl, by kernel_rfl, by first | kernel_rfl | trivial⟩
theorem tab44 : InfOK Tryd.prog 44 (.sc (Value.nilFunc)) := ⟨Tryd.t44, (TypeDesc.func #[9, 9] #[43] false), by kernel_rfl, by kernel_rfl, by kernel_rfl, by kernel_rfl, by kernel_rfl, by kernel_rfl, by first | kernel_rfl | trivial⟩
theorem tab46 : InfOK Tryd.prog 46 (.sc (Value.nilFunc)) := ⟨Tryd.t46, (TypeDesc.func #[9] #[3, 3] false), by kernel_rfl, by kernel_rfl, by kernel_rfl, by kernel_rfl, by kernel_rfl, by kernel_rfl, by first | kernel_rfl | trivial⟩
theorem tab47 : InfOK Tryd.prog 47 (.sc (Value.nilFunc)) := ⟨Tryd.t47, (TypeDesc.func #[3] #[3] false), by kernel_rfl, by kernel_rfl, by kernel_rfl, by kernel_rfl, by kernel_rfl, by kernel_rfl, by first | kernel_rfl | trivial⟩
theorem tab48 : InfOK Tryd.prog 48 (.sc (Value.nilFunc)) := ⟨Tryd.t48, (TypeDesc.func #[36, 9] #[9] false), by kernel_rfl, by kernel_rfl, by kernel_rfl, by kernel_rfl, by kernel_rfl, by kernel_rfl, by first | kernel_rfl | trivial⟩
theorem tab49 : InfOK Tryd.prog 49 (.sc (Value.nilFunc)) := ⟨Tryd.t49, (TypeDesc.func #[9, 5] #[38] false), by kernel_rfl, by kernel_rfl, by kernel_rfl, by kernel_rfl, by kernel_rfl, by kernel_rfl, by first | kernel_rfl | trivial⟩
theorem tab51 : InfOK Tryd.prog 51 (.sc (Value.nilFunc)) := ⟨Tryd.t51, (TypeDesc.func #[9] #[3, 4] false), by kernel_rfl, by kernel_rfl, by kernel_rfl, by kernel_rfl, by kernel_rfl, by kernel_rfl, by first | kernel_rfl | trivial⟩
theorem tab52 : InfOK Tryd.prog 52 (.sc (Value.nilFunc)) := ⟨Tryd.t52, (TypeDesc.func #[3, 3, 3] #[4] false), by kernel_rfl, by kernel_rfl, by kernel_rfl, by kernel_rfl, by kernel_rfl, by kernel_rfl, by first | kernel_rfl | trivial⟩
theorem tab53 : InfOK Tryd.prog 53 (.sc (Value.nilFunc)) := ⟨Tryd.t53, (TypeDesc.func #[3] #[4] false), by kernel_rfl, by kernel_rfl, by kernel_rfl, by kernel_rfl, by kernel_rfl, by kernel_rfl, by first | kernel_rfl | trivial⟩
theorem tab54 : InfOK Tryd.prog 54 (.sc (Value.nilFunc)) := ⟨Tryd.t54, (TypeDesc.func #[23, 3] #[23] false), by kernel_rfl, by kernel_rfl, by kernel_rfl, by kernel_rfl, by kernel_rfl, by kernel_rfl, by first | kernel_rfl | trivial⟩
theorem tab55 : InfOK Tryd.prog 55 (.st [(0, 1), (1, 1)] [(Value.slice none 0 0), (Value.int IntKind.i64 0)]) := ⟨Tryd.t55, #[(Field.mk "b" 22 0 false "" "loop.example/cacheengine/spec" 0), (Field.mk "p" 3 1 false "" "loop.example/cacheengine/spec" 24)], by kernel_rfl, by kernel_rfl, by kernel_rfl, by kernel_rfl, by kernel_rfl, by kernel_rfl, fun n f h => by
    match n with
    | 0 => injection h with h; subst h; exact ⟨Tryd.t22, by kernel_rfl, by kernel_rfl, _, Tryd.underlying22, fun _ => rfl⟩
    | 1 => injection h with h; subst h; exact ⟨Tryd.t3, by kernel_rfl, by kernel_rfl, _, Tryd.underlying3, fun _ => rfl⟩
    | n + 2 => simp at h⟩
theorem tab56 : InfOK Tryd.prog 56 (.st [(0, 1), (1, 1)] [(Value.slice none 0 0), (Value.int IntKind.i64 0)]) := ⟨Tryd.t56, #[(Field.mk "b" 22 0 false "" "loop.example/cacheengine/spec" 0), (Field.mk "p" 3 1 false "" "loop.example/cacheengine/spec" 24)], by kernel_rfl, by kernel_rfl, by kernel_rfl, by kernel_rfl, by kernel_rfl, by kernel_rfl, fun n f h => by
    match n with
    | 0 => injection h with h; subst h; exact ⟨Tryd.t22, by kernel_rfl, by kernel_rfl, _, Tryd.underlying22, fun _ => rfl⟩
    | 1 => injection h with h; subst h; exact ⟨Tryd.t3, by kernel_rfl, by kernel_rfl, _, Tryd.underlying3, fun _ => rfl⟩
    | n + 2 => simp at h⟩
theorem tab57 : InfOK Tryd.prog 57 (.sc (Value.nilFunc)) := ⟨Tryd.t57, (TypeDesc.func #[3] #[9] false), by kernel_rfl, by kernel_rfl, by kernel_rfl, by kernel_rfl, by kernel_rfl, by kernel_rfl, by first | kernel_rfl | trivial⟩
theorem tab58 : InfOK Tryd.prog 58 (.sc ((Value.pointer none))) := ⟨Tryd.t58, (TypeDesc.pointer 60), by kernel_rfl, by kernel_rfl, by kernel_rfl, by kernel_rfl, by kernel_rfl, by kernel_rfl, by first | kernel_rfl | trivial⟩
theorem tab59 : InfOK Tryd.prog 59 (.st [(0, 1), (1, 1)] [(Value.pointer none), (Value.slice none 0 0)]) := ⟨Tryd.t59, #[(Field.mk "addr" 58 0 false "" "strings" 0), (Field.mk "buf" 22 1 false "" "strings" 8)], by kernel_rfl, by kernel_rfl, by kernel_rfl, by kernel_rfl, by kernel_rfl, by kernel_rfl, fun n f h => by
    match n with
    | 0 => injection h with h; subst h; exact ⟨Tryd.t58, by kernel_rfl, by kernel_rfl, _, Tryd.underlying58, fun _ => rfl⟩
    | 1 => injection h with h; subst h; exact ⟨Tryd.t22, by kernel_rfl, by kernel_rfl, _, Tryd.underlying22, fun _ => rfl⟩
    | n + 2 => simp at h⟩
theorem tab60 : InfOK Tryd.prog 60 (.st [(0, 1), (1, 1)] [(Value.pointer none), (Value.slice none 0 0)]) := ⟨Tryd.t60, #[(Field.mk "addr" 58 0 false "" "strings" 0), (Field.mk "buf" 22 1 false "" "strings" 8)], by kernel_rfl, by kernel_rfl, by kernel_rfl, by kernel_rfl, by kernel_rfl, by kernel_rfl, fun n f h => by
    match n with
    | 0 => injection h with h; subst h; exact ⟨Tryd.t58, by kernel_rfl, by kernel_rfl, _, Tryd.underlying58, fun _ => rfl⟩
    | 1 => injection h with h; subst h; exact ⟨Tryd.t22, by kernel_rfl, by kernel_rfl, _, Tryd.underlying22, fun _ => rfl⟩
    | n + 2 => simp at h⟩
theorem tab61 : InfOK Tryd.prog 61 (.sc (Value.nilFunc)) := ⟨Tryd.t61, (TypeDesc.func #[3] #[] false), by kernel_rfl, by kernel_rfl, by kernel_rfl, by kernel_rfl, by kernel_rfl, by kernel_rfl, by first | kernel_rfl | trivial⟩
theorem tab62 : InfOK Tryd.prog 62 (.sc (Value.nilIface)) := ⟨Tryd.t62, (TypeDesc.interface #[("Error", 66)]), by kernel_rfl, by kernel_rfl, by kernel_rfl, by kernel_rfl, by kernel_rfl, by kernel_rfl, by first | kernel_rfl | trivial⟩
theorem tab63 : InfOK Tryd.prog 63 (.sc (Value.nilIface)) := ⟨Tryd.t63, (TypeDesc.interface #[("Error", 66)]), by kernel_rfl, by kernel_rfl, by kernel_rfl, by kernel_rfl, by kernel_rfl, by kernel_rfl, by first | kernel_rfl | trivial⟩
theorem tab65 : InfOK Tryd.prog 65 (.sc (Value.nilFunc)) := ⟨Tryd.t65, (TypeDesc.func #[9] #[3, 63] false), by kernel_rfl, by kernel_rfl, by kernel_rfl, by kernel_rfl, by kernel_rfl, by kernel_rfl, by first | kernel_rfl | trivial⟩
theorem tab66 : InfOK Tryd.prog 66 (.sc (Value.nilFunc)) := ⟨Tryd.t66, (TypeDesc.func #[] #[9] false), by kernel_rfl, by kernel_rfl, by kernel_rfl, by kernel_rfl, by kernel_rfl, by kernel_rfl, by first | kernel_rfl | trivial⟩
theorem tab67 : InfOK Tryd.prog 67 (.sc (Value.nilFunc)) := ⟨Tryd.t67, (TypeDesc.func #[23, 3, 3] #[4] false), by kernel_rfl, by kernel_rfl, by kernel_rfl, by kernel_rfl, by kernel_rfl, by kernel_rfl, by first | kernel_rfl | trivial⟩
theorem tab68 : InfOK Tryd.prog 68 (.sc (Value.nilFunc)) := ⟨Tryd.t68, (TypeDesc.func #[9, 9, 3] #[43] false), by kernel_rfl, by kernel_rfl, by kernel_rfl, by kernel_rfl, by kernel_rfl, by kernel_rfl, by first | kernel_rfl | trivial⟩
theorem tab70 : InfOK Tryd.prog 70 (.sc (Value.nilFunc)) := ⟨Tryd.t70, (TypeDesc.func #[9, 9] #[9, 9, 4] false), by kernel_rfl, by kernel_rfl, by kernel_rfl, by kernel_rfl, by kernel_rfl, by kernel_rfl, by first | kernel_rfl | trivial⟩
theorem tab71 : InfOK Tryd.prog 71 (.sc (Value.nilFunc)) := ⟨Tryd.t71, (TypeDesc.func #[38] #[9] false), by kernel_rfl, by kernel_rfl, by kernel_rfl, by kernel_rfl, by kernel_rfl, by kernel_rfl, by first | kernel_rfl | trivial⟩
theorem tab72 : InfOK Tryd.prog 72 (.sc ((Value.pointer none))) := ⟨Tryd.t72, (TypeDesc.pointer 5), by kernel_rfl, by kernel_rfl, by kernel_rfl, by kernel_rfl, by kernel_rfl, by kernel_rfl, by first | kernel_rfl | trivial⟩
theorem tab74 : InfOK Tryd.prog 74 (.sc (Value.nilFunc)) := ⟨Tryd.t74, (TypeDesc.func #[9] #[21, 3] false), by kernel_rfl, by kernel_rfl, by kernel_rfl, by kernel_rfl, by kernel_rfl, by kernel_rfl, by first | kernel_rfl | trivial⟩
theorem tab75 : InfOK Tryd.prog 75 (.sc (Value.nilFunc)) := ⟨Tryd.t75, (TypeDesc.func #[9, 9] #[3] false), by kernel_rfl, by kernel_rfl, by kernel_rfl, by kernel_rfl, by kernel_rfl, by kernel_rfl, by first | kernel_rfl | trivial⟩
theorem tab76 : InfOK Tryd.prog 76 (.sc (Value.nilFunc)) := ⟨Tryd.t76, (TypeDesc.func #[9, 9, 3, 3, 63] #[63] false), by kernel_rfl, by kernel_rfl, by kernel_rfl, by kernel_rfl, by kernel_rfl, by kernel_rfl, by first | kernel_rfl | trivial⟩
theorem tab77 : InfOK Tryd.prog 77 (.sc (Value.nilFunc)) := ⟨Tryd.t77, (TypeDesc.func #[2, 3] #[9] false), by kernel_rfl, by kernel_rfl, by kernel_rfl, by kernel_rfl, by kernel_rfl, by kernel_rfl, by first | kernel_rfl | trivial⟩
theorem tab78 : InfOK Tryd.prog 78 (.sc ((Value.pointer none))) := ⟨Tryd.t78, TypeDesc.unsafePointer, by kernel_rfl, by kernel_rfl, by kernel_rfl, by kernel_rfl, by kernel_rfl, by kernel_rfl, by first | kernel_rfl | trivial⟩
theorem tab79 : InfOK Tryd.prog 79 (.sc (Value.nilFunc)) := ⟨Tryd.t79, (TypeDesc.func #[78] #[78] false), by kernel_rfl, by kernel_rfl, by kernel_rfl, by kernel_rfl, by kernel_rfl, by kernel_rfl, by first | kernel_rfl | trivial⟩
theorem tab80 : InfOK Tryd.prog 80 (.sc (Value.nilFunc)) := ⟨Tryd.t80, (TypeDesc.func #[3] #[22] false), by kernel_rfl, by kernel_rfl, by kernel_rfl, by kernel_rfl, by kernel_rfl, by kernel_rfl, by first | kernel_rfl | trivial⟩
theorem tab81 : InfOK Tryd.prog 81 (.sc ((Value.int IntKind.i64 0))) := ⟨Tryd.t81, (TypeDesc.int IntKind.i64), by kernel_rfl, by kernel_rfl, by kernel_rfl, by kernel_rfl, by kernel_rfl, by kernel_rfl, by first | kernel_rfl | trivial⟩
theorem tab83 : InfOK Tryd.prog 83 (.sc (Value.nilFunc)) := ⟨Tryd.t83, (TypeDesc.func #[9, 3, 3] #[2, 63] false), by kernel_rfl, by kernel_rfl, by kernel_rfl, by kernel_rfl, by kernel_rfl, by kernel_rfl, by first | kernel_rfl | trivial⟩
theorem tab84 : InfOK Tryd.prog 84 (.sc ((Value.pointer none))) := ⟨Tryd.t84, (TypeDesc.pointer 103), by kernel_rfl, by kernel_rfl, by kernel_rfl, by kernel_rfl, by kernel_rfl, by kernel_rfl, by first | kernel_rfl | trivial⟩
theorem tab85 : InfOK Tryd.prog 85 (.sc (Value.nilFunc)) := ⟨Tryd.t85, (TypeDesc.func #[9, 9] #[84] false), by kernel_rfl, by kernel_rfl, by kernel_rfl, by kernel_rfl, by kernel_rfl, by kernel_rfl, by first | kernel_rfl | trivial⟩
theorem tab86 : InfOK Tryd.prog 86 (.sc (Value.nilFunc)) := ⟨Tryd.t86, (TypeDesc.func #[9, 9, 3] #[84] false), by kernel_rfl, by kernel_rfl, by kernel_rfl, by kernel_rfl, by kernel_rfl, by kernel_rfl, by first | kernel_rfl | trivial⟩
theorem tab88 : InfOK Tryd.prog 88 (.sc ((Value.int IntKind.u64 0))) := ⟨Tryd.t88, (TypeDesc.int IntKind.u64), by kernel_rfl, by kernel_rfl, by kernel_rfl, by kernel_rfl, by kernel_rfl, by kernel_rfl, by first | kernel_rfl | trivial⟩
theorem tab89 : InfOK Tryd.prog 89 (.sc (Value.nilFunc)) := ⟨Tryd.t89, (TypeDesc.func #[88] #[3] false), by kernel_rfl, by kernel_rfl, by kernel_rfl, by kernel_rfl, by kernel_rfl, by kernel_rfl, by first | kernel_rfl | trivial⟩
theorem tab90 : InfOK Tryd.prog 90 (.sc (Value.nilFunc)) := ⟨Tryd.t90, (TypeDesc.func #[22, 88] #[] false), by kernel_rfl, by kernel_rfl, by kernel_rfl, by kernel_rfl, by kernel_rfl, by kernel_rfl, by first | kernel_rfl | trivial⟩
theorem tab92 : InfOK Tryd.prog 92 (.sc (Value.nilFunc)) := ⟨Tryd.t92, (TypeDesc.func #[22, 88, 3, 4, 4] #[22, 9] false), by kernel_rfl, by kernel_rfl, by kernel_rfl, by kernel_rfl, by kernel_rfl, by kernel_rfl, by first | kernel_rfl | trivial⟩
theorem tab94 : InfOK Tryd.prog 94 (.sc ((Value.int IntKind.u64 0))) := ⟨Tryd.t94, (TypeDesc.int IntKind.u64), by kernel_rfl, by kernel_rfl, by kernel_rfl, by kernel_rfl, by kernel_rfl, by kernel_rfl, by first | kernel_rfl | trivial⟩
theorem tab95 : InfOK Tryd.prog 95 (.st [(0, 1), (1, 1)] [(Value.int IntKind.u8 0), (Value.int IntKind.u8 0)]) := ⟨Tryd.t95, #[(Field.mk "lo" 5 0 false "" "unicode/utf8" 0), (Field.mk "hi" 5 1 false "" "unicode/utf8" 1)], by kernel_rfl, by kernel_rfl, by kernel_rfl, by kernel_rfl, by kernel_rfl, by kernel_rfl, fun n f h => by
    match n with
    | 0 => injection h with h; subst h; exact ⟨Tryd.t5, by kernel_rfl, by kernel_rfl, _, Tryd.underlying5, fun _ => rfl⟩
    | 1 => injection h with h; subst h; exact ⟨Tryd.t5, by kernel_rfl, by kernel_rfl, _, Tryd.underlying5, fun _ => rfl⟩
    | n + 2 => simp at h⟩
theorem tab96 : InfOK Tryd.prog 96 (.st [(0, 1), (1, 1)] [(Value.int IntKind.u8 0), (Value.int IntKind.u8 0)]) := ⟨Tryd.t96, #[(Field.mk "lo" 5 0 false "" "unicode/utf8" 0), (Field.mk "hi" 5 1 false "" "unicode/utf8" 1)], by kernel_rfl, by kernel_rfl, by kernel_rfl, by kernel_rfl, by kernel_rfl, by kernel_rfl, fun n f h => by
    match n with
    | 0 => injection h with h; subst h; exact ⟨Tryd.t5, by kernel_rfl, by kernel_rfl, _, Tryd.underlying5, fun _ => rfl⟩
    | 1 => injection h with h; subst h; exact ⟨Tryd.t5, by kernel_rfl, by kernel_rfl, _, Tryd.underlying5, fun _ => rfl⟩
    | n + 2 => simp at h⟩
theorem tab98 : InfOK Tryd.prog 98 (.sc (Value.nilFunc)) := ⟨Tryd.t98, (TypeDesc.func #[9, 5] #[3] false), by kernel_rfl, by kernel_rfl, by kernel_rfl, by kernel_rfl, by kernel_rfl, by kernel_rfl, by first | kernel_rfl | trivial⟩
theorem tab100 : InfOK Tryd.prog 100 (.sc (Value.nilFunc)) := ⟨Tryd.t100, (TypeDesc.func #[9, 3, 3] #[88, 63] false), by kernel_rfl, by kernel_rfl, by kernel_rfl, by kernel_rfl, by kernel_rfl, by kernel_rfl, by first | kernel_rfl | trivial⟩
theorem tab101 : InfOK Tryd.prog 101 (.sc (Value.nilFunc)) := ⟨Tryd.t101, (TypeDesc.func #[9] #[9] false), by kernel_rfl, by kernel_rfl, by kernel_rfl, by kernel_rfl, by kernel_rfl, by kernel_rfl, by first | kernel_rfl | trivial⟩
theorem tab102 : InfOK Tryd.prog 102 (.st [(0, 1), (1, 1), (2, 1)] [(Value.string (ByteArray.mk #[])), (Value.string (ByteArray.mk #[])), Value.nilIface]) := ⟨Tryd.t102, #[(Field.mk "Func" 9 0 false "" "" 0), (Field.mk "Num" 9 1 false "" "" 16), (Field.mk "Err" 63 2 false "" "" 32)], by kernel_rfl, by kernel_rfl, by kernel_rfl, by kernel_rfl, by kernel_rfl, by kernel_rfl, fun n f h => by
    match n with
    | 0 => injection h with h; subst h; exact ⟨Tryd.t9, by kernel_rfl, by kernel_rfl, _, Tryd.underlying9, fun _ => rfl⟩
    | 1 => injection h with h; subst h; exact ⟨Tryd.t9, by kernel_rfl, by kernel_rfl, _, Tryd.underlying9, fun _ => rfl⟩
    | 2 => injection h with h; subst h; exact ⟨Tryd.t63, by kernel_rfl, by kernel_rfl, _, Tryd.underlying63, fun _ => rfl⟩
    | n + 3 => simp at h⟩
theorem tab103 : InfOK Tryd.prog 103 (.st [(0, 1), (1, 1), (2, 1)] [(Value.string (ByteArray.mk #[])), (Value.string (ByteArray.mk #[])), Value.nilIface]) := ⟨Tryd.t103, #[(Field.mk "Func" 9 0 false "" "" 0), (Field.mk "Num" 9 1 false "" "" 16), (Field.mk "Err" 63 2 false "" "" 32)], by kernel_rfl, by kernel_rfl, by kernel_rfl, by kernel_rfl, by kernel_rfl, by kernel_rfl, fun n f h => by
    match n with
    | 0 => injection h with h; subst h; exact ⟨Tryd.t9, by kernel_rfl, by kernel_rfl, _, Tryd.underlying9, fun _ => rfl⟩
    | 1 => injection h with h; subst h; exact ⟨Tryd.t9, by kernel_rfl, by kernel_rfl, _, Tryd.underlying9, fun _ => rfl⟩
    | 2 => injection h with h; subst h; exact ⟨Tryd.t63, by kernel_rfl, by kernel_rfl, _, Tryd.underlying63, fun _ => rfl⟩
    | n + 3 => simp at h⟩
theorem tab104 : InfOK Tryd.prog 104 (.sc (Value.nilFunc)) := ⟨Tryd.t104, (TypeDesc.func #[9] #[63] false), by kernel_rfl, by kernel_rfl, by kernel_rfl, by kernel_rfl, by kernel_rfl, by kernel_rfl, by first | kernel_rfl | trivial⟩
theorem tab105 : InfOK Tryd.prog 105 (.sc (Value.nilFunc)) := ⟨Tryd.t105, (TypeDesc.func #[4] #[3] false), by kernel_rfl, by kernel_rfl, by kernel_rfl, by kernel_rfl, by kernel_rfl, by kernel_rfl, by first | kernel_rfl | trivial⟩
theorem tab107 : InfOK Tryd.prog 107 (.sc ((Value.int IntKind.u32 0))) := ⟨Tryd.t107, (TypeDesc.int IntKind.u32), by kernel_rfl, by kernel_rfl, by kernel_rfl, by kernel_rfl, by kernel_rfl, by kernel_rfl, by first | kernel_rfl | trivial⟩
theorem tab109 : InfOK Tryd.prog 109 (.sc (Value.nilFunc)) := ⟨Tryd.t109, (TypeDesc.func #[94] #[3] false), by kernel_rfl, by kernel_rfl, by kernel_rfl, by kernel_rfl, by kernel_rfl, by kernel_rfl, by first | kernel_rfl | trivial⟩
theorem tab111 : InfOK Tryd.prog 111 (.sc (Value.nilFunc)) := ⟨Tryd.t111, (TypeDesc.func #[9] #[107, 107] false), by kernel_rfl, by kernel_rfl, by kernel_rfl, by kernel_rfl, by kernel_rfl, by kernel_rfl, by first | kernel_rfl | trivial⟩
theorem tab112 : InfOK Tryd.prog 112 (.sc (Value.nilFunc)) := ⟨Tryd.t112, (TypeDesc.func #[5] #[5] false), by kernel_rfl, by kernel_rfl, by kernel_rfl, by kernel_rfl, by kernel_rfl, by kernel_rfl, by first | kernel_rfl | trivial⟩
theorem tab113 : InfOK Tryd.prog 113 (.sc ((Value.pointer none))) := ⟨Tryd.t113, (TypeDesc.pointer 115), by kernel_rfl, by kernel_rfl, by kernel_rfl, by kernel_rfl, by kernel_rfl, by kernel_rfl, by first | kernel_rfl | trivial⟩
theorem tab114 : InfOK Tryd.prog 114 (.st [(0, 1)] [(Value.string (ByteArray.mk #[]))]) := ⟨Tryd.t114, #[(Field.mk "s" 9 0 false "" "errors" 0)], by kernel_rfl, by kernel_rfl, by kernel_rfl, by kernel_rfl, by kernel_rfl, by kernel_rfl, fun n f h => by
    match n with
    | 0 => injection h with h; subst h; exact ⟨Tryd.t9, by kernel_rfl, by kernel_rfl, _, Tryd.underlying9, fun _ => rfl⟩
    | n + 1 => simp at h⟩
theorem tab115 : InfOK Tryd.prog 115 (.st [(0, 1)] [(Value.string (ByteArray.mk #[]))]) := ⟨Tryd.t115, #[(Field.mk "s" 9 0 false "" "errors" 0)], by kernel_rfl, by kernel_rfl, by kernel_rfl, by kernel_rfl, by kernel_rfl, by kernel_rfl, fun n f h => by
    match n with
    | 0 => injection h with h; subst h; exact ⟨Tryd.t9, by kernel_rfl, by kernel_rfl, _, Tryd.underlying9, fun _ => rfl⟩
    | n + 1 => simp at h⟩
theorem tab116 : InfOK Tryd.prog 116 (.sc (Value.nilFunc)) := ⟨Tryd.t116, (TypeDesc.func #[107] #[3] false), by kernel_rfl, by kernel_rfl, by kernel_rfl, by kernel_rfl, by kernel_rfl, by kernel_rfl, by first | kernel_rfl | trivial⟩
theorem tab119 : InfOK Tryd.prog 119 (.st [(0, 1), (1, 1), (2, 1), (3, 1)] [(Value.pointer none), (Value.pointer none), (Value.pointer none), (Value.string (ByteArray.mk #[]))]) := ⟨Tryd.t119, #[(Field.mk "_interface" 17 0 false "" "runtime" 0), (Field.mk "concrete" 17 1 false "" "runtime" 8), (Field.mk "asserted" 17 2 false "" "runtime" 16), (Field.mk "missingMethod" 9 3 false "" "runtime" 24)], by kernel_rfl, by kernel_rfl, by kernel_rfl, by kernel_rfl, by kernel_rfl, by kernel_rfl, fun n f h => by
    match n with
    | 0 => injection h with h; subst h; exact ⟨Tryd.t17, by kernel_rfl, by kernel_rfl, _, Tryd.underlying17, fun _ => rfl⟩
    | 1 => injection h with h; subst h; exact ⟨Tryd.t17, by kernel_rfl, by kernel_rfl, _, Tryd.underlying17, fun _ => rfl⟩
    | 2 => injection h with h; subst h; exact ⟨Tryd.t17, by kernel_rfl, by kernel_rfl, _, Tryd.underlying17, fun _ => rfl⟩
    | 3 => injection h with h; subst h; exact ⟨Tryd.t9, by kernel_rfl, by kernel_rfl, _, Tryd.underlying9, fun _ => rfl⟩
    | n + 4 => simp at h⟩
theorem tab120 : InfOK Tryd.prog 120 (.st [(0, 1), (1, 1), (2, 1), (3, 1)] [(Value.pointer none), (Value.pointer none), (Value.pointer none), (Value.string (ByteArray.mk #[]))]) := ⟨Tryd.t120, #[(Field.mk "_interface" 17 0 false "" "runtime" 0), (Field.mk "concrete" 17 1 false "" "runtime" 8), (Field.mk "asserted" 17 2 false "" "runtime" 16), (Field.mk "missingMethod" 9 3 false "" "runtime" 24)], by kernel_rfl, by kernel_rfl, by kernel_rfl, by kernel_rfl, by kernel_rfl, by kernel_rfl, fun n f h => by
    match n with
    | 0 => injection h with h; subst h; exact ⟨Tryd.t17, by kernel_rfl, by kernel_rfl, _, Tryd.underlying17, fun _ => rfl⟩
    | 1 => injection h with h; subst h; exact ⟨Tryd.t17, by kernel_rfl, by kernel_rfl, _, Tryd.underlying17, fun _ => rfl⟩
    | 2 => injection h with h; subst h; exact ⟨Tryd.t17, by kernel_rfl, by kernel_rfl, _, Tryd.underlying17, fun _ => rfl⟩
    | 3 => injection h with h; subst h; exact ⟨Tryd.t9, by kernel_rfl, by kernel_rfl, _, Tryd.underlying9, fun _ => rfl⟩
    | n + 4 => simp at h⟩
theorem tab122 : InfOK Tryd.prog 122 (.st [(0, 0)] []) := ⟨Tryd.t122, #[(Field.mk "_" 121 0 false "" "runtime" 0)], by kernel_rfl, by kernel_rfl, by kernel_rfl, by kernel_rfl, by kernel_rfl, by kernel_rfl, fun n f h => by
    match n with
    | 0 => injection h with h; subst h; exact ⟨Tryd.t121, by kernel_rfl, by kernel_rfl, _, Tryd.underlying121, fun h => absurd h (by decide)⟩
    | n + 1 => simp at h⟩
theorem tab123 : InfOK Tryd.prog 123 (.st [(0, 0)] []) := ⟨Tryd.t123, #[(Field.mk "_" 121 0 false "" "runtime" 0)], by kernel_rfl, by kernel_rfl, by kernel_rfl, by kernel_rfl, by kernel_rfl, by kernel_rfl, fun n f h => by
    match n with
    | 0 => injection h with h; subst h; exact ⟨Tryd.t121, by kernel_rfl, by kernel_rfl, _, Tryd.underlying121, fun h => absurd h (by decide)⟩
    | n + 1 => simp at h⟩
theorem tab124 : InfOK Tryd.prog 124 (.sc (Value.nilFunc)) := ⟨Tryd.t124, (TypeDesc.func #[] #[3] false), by kernel_rfl, by kernel_rfl, by kernel_rfl, by kernel_rfl, by kernel_rfl, by kernel_rfl, by first | kernel_rfl | trivial⟩
theorem tab125 : InfOK Tryd.prog 125 (.sc ((Value.int IntKind.u8 0))) := ⟨Tryd.t125, (TypeDesc.int IntKind.u8), by kernel_rfl, by kernel_rfl, by kernel_rfl, by kernel_rfl, by kernel_rfl, by kernel_rfl, by first | kernel_rfl | trivial⟩
theorem tab126 : InfOK Tryd.prog 126 (.sc ((Value.int IntKind.u8 0))) := ⟨Tryd.t126, (TypeDesc.int IntKind.u8), by kernel_rfl, by kernel_rfl, by kernel_rfl, by kernel_rfl, by kernel_rfl, by kernel_rfl, by first | kernel_rfl | trivial⟩
theorem tab127 : InfOK Tryd.prog 127 (.sc (Value.nilFunc)) := ⟨Tryd.t127, (TypeDesc.func #[78, 78] #[4] false), by kernel_rfl, by kernel_rfl, by kernel_rfl, by kernel_rfl, by kernel_rfl, by kernel_rfl, by first | kernel_rfl | trivial⟩
theorem tab128 : InfOK Tryd.prog 128 (.sc ((Value.int IntKind.i32 0))) := ⟨Tryd.t128, (TypeDesc.int IntKind.i32), by kernel_rfl, by kernel_rfl, by kernel_rfl, by kernel_rfl, by kernel_rfl, by kernel_rfl, by first | kernel_rfl | trivial⟩
theorem tab129 : InfOK Tryd.prog 129 (.sc ((Value.int IntKind.i32 0))) := ⟨Tryd.t129, (TypeDesc.int IntKind.i32), by kernel_rfl, by kernel_rfl, by kernel_rfl, by kernel_rfl, by kernel_rfl, by kernel_rfl, by first | kernel_rfl | trivial⟩
theorem tab130 : InfOK Tryd.prog 130 (.st [(0, 1), (1, 1), (2, 1), (3, 1), (4, 1), (5, 1), (6, 1), (7, 1), (8, 1), (9, 1), (10, 1)] [(Value.int IntKind.u64 0), (Value.int IntKind.u64 0), (Value.int IntKind.u32 0), (Value.int IntKind.u8 0), (Value.int IntKind.u8 0), (Value.int IntKind.u8 0), (Value.int IntKind.u8 0), Value.nilFunc, (Value.pointer none), (Value.int IntKind.i32 0), (Value.int IntKind.i32 0)]) := ⟨Tryd.t130, #[(Field.mk "Size_" 12 0 false "" "" 0), (Field.mk "PtrBytes" 12 1 false "" "" 8), (Field.mk "Hash" 107 2 false "" "" 16), (Field.mk "TFlag" 125 3 false "" "" 20), (Field.mk "Align_" 5 4 false "" "" 21), (Field.mk "FieldAlign_" 5 5 false "" "" 22), (Field.mk "Kind_" 126 6 false "" "" 23), (Field.mk "Equal" 127 7 false "" "" 24), (Field.mk "GCData" 72 8 false "" "" 32), (Field.mk "Str" 128 9 false "" "" 40), (Field.mk "PtrToThis" 129 10 false "" "" 44)], by kernel_rfl, by kernel_rfl, by kernel_rfl, by kernel_rfl, by kernel_rfl, by kernel_rfl, fun n f h => by
    match n with
    | 0 => injection h with h; subst h; exact ⟨Tryd.t12, by kernel_rfl, by kernel_rfl, _, Tryd.underlying12, fun _ => rfl⟩
    | 1 => injection h with h; subst h; exact ⟨Tryd.t12, by kernel_rfl, by kernel_rfl, _, Tryd.underlying12, fun _ => rfl⟩
    | 2 => injection h with h; subst h; exact ⟨Tryd.t107, by kernel_rfl, by kernel_rfl, _, Tryd.underlying107, fun _ => rfl⟩
    | 3 => injection h with h; subst h; exact ⟨Tryd.t125, by kernel_rfl, by kernel_rfl, _, Tryd.underlying125, fun _ => rfl⟩
    | 4 => injection h with h; subst h; exact ⟨Tryd.t5, by kernel_rfl, by kernel_rfl, _, Tryd.underlying5, fun _ => rfl⟩
    | 5 => injection h with h; subst h; exact ⟨Tryd.t5, by kernel_rfl, by kernel_rfl, _, Tryd.underlying5, fun _ => rfl⟩
    | 6 => injection h with h; subst h; exact ⟨Tryd.t126, by kernel_rfl, by kernel_rfl, _, Tryd.underlying126, fun _ => rfl⟩
    | 7 => injection h with h; subst h; exact ⟨Tryd.t127, by kernel_rfl, by kernel_rfl, _, Tryd.underlying127, fun _ => rfl⟩
    | 8 => injection h with h; subst h; exact ⟨Tryd.t72, by kernel_rfl, by kernel_rfl, _, Tryd.underlying72, fun _ => rfl⟩
    | 9 => injection h with h; subst h; exact ⟨Tryd.t128, by kernel_rfl, by kernel_rfl, _, Tryd.underlying128, fun _ => rfl⟩
    | 10 => injection h with h; subst h; exact ⟨Tryd.t129, by kernel_rfl, by kernel_rfl, _, Tryd.underlying129, fun _ => rfl⟩
    | n + 11 => simp at h⟩
theorem tab131 : InfOK Tryd.prog 131 (.st [(0, 1), (1, 1), (2, 1), (3, 1), (4, 1), (5, 1), (6, 1), (7, 1), (8, 1), (9, 1), (10, 1)] [(Value.int IntKind.u64 0), (Value.int IntKind.u64 0), (Value.int IntKind.u32 0), (Value.int IntKind.u8 0), (Value.int IntKind.u8 0), (Value.int IntKind.u8 0), (Value.int IntKind.u8 0), Value.nilFunc, (Value.pointer none), (Value.int IntKind.i32 0), (Value.int IntKind.i32 0)]) := ⟨Tryd.t131, #[(Field.mk "Size_" 12 0 false "" "" 0), (Field.mk "PtrBytes" 12 1 false "" "" 8), (Field.mk "Hash" 107 2 false "" "" 16), (Field.mk "TFlag" 125 3 false "" "" 20), (Field.mk "Align_" 5 4 false "" "" 21), (Field.mk "FieldAlign_" 5 5 false "" "" 22), (Field.mk "Kind_" 126 6 false "" "" 23), (Field.mk "Equal" 127 7 false "" "" 24), (Field.mk "GCData" 72 8 false "" "" 32), (Field.mk "Str" 128 9 false "" "" 40), (Field.mk "PtrToThis" 129 10 false "" "" 44)], by kernel_rfl, by kernel_rfl, by kernel_rfl, by kernel_rfl, by kernel_rfl, by kernel_rfl, fun n f h => by
    match n with
    | 0 => injection h with h; subst h; exact ⟨Tryd.t12, by kernel_rfl, by kernel_rfl, _, Tryd.underlying12, fun _ => rfl⟩
    | 1 => injection h with h; subst h; exact ⟨Tryd.t12, by kernel_rfl, by kernel_rfl, _, Tryd.underlying12, fun _ => rfl⟩
    | 2 => injection h with h; subst h; exact ⟨Tryd.t107, by kernel_rfl, by kernel_rfl, _, Tryd.underlying107, fun _ => rfl⟩
    | 3 => injection h with h; subst h; exact ⟨Tryd.t125, by kernel_rfl, by kernel_rfl, _, Tryd.underlying125, fun _ => rfl⟩
    | 4 => injection h with h; subst h; exact ⟨Tryd.t5, by kernel_rfl, by kernel_rfl, _, Tryd.underlying5, fun _ => rfl⟩
    | 5 => injection h with h; subst h; exact ⟨Tryd.t5, by kernel_rfl, by kernel_rfl, _, Tryd.underlying5, fun _ => rfl⟩
    | 6 => injection h with h; subst h; exact ⟨Tryd.t126, by kernel_rfl, by kernel_rfl, _, Tryd.underlying126, fun _ => rfl⟩
    | 7 => injection h with h; subst h; exact ⟨Tryd.t127, by kernel_rfl, by kernel_rfl, _, Tryd.underlying127, fun _ => rfl⟩
    | 8 => injection h with h; subst h; exact ⟨Tryd.t72, by kernel_rfl, by kernel_rfl, _, Tryd.underlying72, fun _ => rfl⟩
    | 9 => injection h with h; subst h; exact ⟨Tryd.t128, by kernel_rfl, by kernel_rfl, _, Tryd.underlying128, fun _ => rfl⟩
    | 10 => injection h with h; subst h; exact ⟨Tryd.t129, by kernel_rfl, by kernel_rfl, _, Tryd.underlying129, fun _ => rfl⟩
    | n + 11 => simp at h⟩
theorem tabOK : TabOK Tryd.prog TT := tabOK_of ⟨tab1, tab2, tab3, tab4, tab5, tab6, tab7, tab8, tab9, tab10, tab11, tab12, tab13, tab14, tab15, tab16, tab17, tab18, tab19, tab20, tab21, tab22, tab23, tab24, tab25, tab27, tab28, tab29, tab30, tab31, tab32, tab33, tab34, tab35, tab36, tab37, tab38, tab39, tab40, tab41, tab42, tab43, tab44, tab46, tab47, tab48, tab49, tab51, tab52, tab53, tab54, tab55, tab56, tab57, tab58, tab59, tab60, tab61, tab62, tab63, tab65, tab66, tab67, tab68, tab70, tab71, tab72, tab74, tab75, tab76, tab77, tab78, tab79, tab80, tab81, tab83, tab84, tab85, tab86, tab88, tab89, tab90, tab92, tab94, tab95, tab96, tab98, tab100, tab101, tab102, tab103, tab104, tab105, tab107, tab109, tab111, tab112, tab113, tab114, tab115, tab116, tab119, tab120, tab122, tab123, tab124, tab125, tab126, tab127, tab128, tab129, tab130, tab131, trivial⟩
theorem mixed : Tryd.prog.follows .mixedOrders = true := by kernel_rfl
end Go.Ev
