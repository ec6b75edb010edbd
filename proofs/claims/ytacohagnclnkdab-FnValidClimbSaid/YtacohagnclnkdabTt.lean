/- The types of the program, as the evaluator wants them. No statement is proved here. -/
import Derived.Test.YtacohagnclnkdabEvT
import Derived.Test.YtacohagnclnkdabChecked
namespace Go.Ev
set_option linter.unusedVariables false
set_option linter.unusedSimpArgs false
open Go Go.Proofs
def TT : Tab := [(1, .sc (Value.nilFunc)),
  (2, .sc ((Value.int IntKind.i64 0))),
  (3, .sc ((Value.int IntKind.i64 0))),
  (4, .sc ((Value.bool false))),
  (5, .sc ((Value.int IntKind.u8 0))),
  (6, .sc ((Value.int IntKind.u8 0))),
  (7, .st [(0, 1), (1, 1), (2, 1), (3, 1)] [(Value.int IntKind.i64 0), (Value.int IntKind.i64 0), (Value.bool false), (Value.int IntKind.u8 0)]),
  (8, .st [(0, 1), (1, 1), (2, 1), (3, 1)] [(Value.int IntKind.i64 0), (Value.int IntKind.i64 0), (Value.bool false), (Value.int IntKind.u8 0)]),
  (9, .sc ((Value.string (ByteArray.mk #[])))),
  (10, .sc ((Value.string (ByteArray.mk #[])))),
  (11, .sc ((Value.string (ByteArray.mk #[])))),
  (12, .sc ((Value.int IntKind.u64 0))),
  (13, .st [(0, 1), (1, 1)] [(Value.string (ByteArray.mk #[])), (Value.int IntKind.u64 0)]),
  (14, .st [(0, 1), (1, 1)] [(Value.string (ByteArray.mk #[])), (Value.int IntKind.u64 0)]),
  (15, .sc ((Value.pointer none))),
  (16, .sc ((Value.pointer none))),
  (17, .sc ((Value.pointer none))),
  (18, .st [(0, 1)] [(Value.pointer none)]),
  (19, .st [(0, 1)] [(Value.pointer none)]),
  (20, .sc (Value.nilIface)),
  (21, .sc ((Value.int IntKind.i32 0))),
  (22, .sl 5 .u8),
  (24, .sc (Value.nilFunc)),
  (25, .sc (Value.nilFunc)),
  (26, .sc (Value.nilFunc)),
  (27, .st [(0, 1), (1, 1), (2, 1)] [(Value.int IntKind.i64 0), (Value.int IntKind.i64 0), (Value.int IntKind.i64 0)]),
  (28, .st [(0, 1), (1, 1), (2, 1)] [(Value.int IntKind.i64 0), (Value.int IntKind.i64 0), (Value.int IntKind.i64 0)]),
  (29, .sc (Value.nilFunc)),
  (30, .sc (Value.nilFunc)),
  (32, .sc (Value.nilFunc)),
  (34, .sc (Value.nilFunc)),
  (35, .sl 3 .int),
  (37, .sc (Value.nilFunc)),
  (38, .sc (Value.nilFunc)),
  (39, .st [(0, 1), (1, 1), (2, 1), (3, 1)] [(Value.int IntKind.i64 0), (Value.int IntKind.i64 0), (Value.slice none 0 0), (Value.slice none 0 0)]),
  (40, .st [(0, 1), (1, 1), (2, 1), (3, 1)] [(Value.int IntKind.i64 0), (Value.int IntKind.i64 0), (Value.slice none 0 0), (Value.slice none 0 0)]),
  (42, .sc (Value.nilFunc)),
  (43, .sl 71 .iib),
  (44, .st [(0, 1), (1, 1), (2, 1)] [(Value.slice none 0 0), (Value.slice none 0 0), (Value.int IntKind.i64 0)]),
  (45, .st [(0, 1), (1, 1), (2, 1)] [(Value.slice none 0 0), (Value.slice none 0 0), (Value.int IntKind.i64 0)]),
  (47, .sc (Value.nilFunc)),
  (49, .sc (Value.nilFunc)),
  (50, .sc (Value.nilFunc)),
  (51, .sc (Value.nilFunc)),
  (53, .sc (Value.nilFunc)),
  (55, .sc (Value.nilFunc)),
  (56, .sc ((Value.pointer none))),
  (57, .sc (Value.nilFunc)),
  (58, .sc (Value.nilFunc)),
  (59, .sc (Value.nilFunc)),
  (60, .sc (Value.nilFunc)),
  (61, .sc (Value.nilFunc)),
  (62, .sc (Value.nilFunc)),
  (63, .sc (Value.nilFunc)),
  (64, .sc (Value.nilFunc)),
  (65, .sc (Value.nilFunc)),
  (66, .sc (Value.nilFunc)),
  (67, .sc (Value.nilFunc)),
  (68, .sc (Value.nilFunc)),
  (69, .sc (Value.nilFunc)),
  (70, .st [(0, 1), (1, 1), (2, 1)] [(Value.int IntKind.i64 0), (Value.int IntKind.i64 0), (Value.bool false)]),
  (71, .st [(0, 1), (1, 1), (2, 1)] [(Value.int IntKind.i64 0), (Value.int IntKind.i64 0), (Value.bool false)]),
  (72, .sc (Value.nilFunc)),
  (73, .sc (Value.nilFunc)),
  (74, .sc (Value.nilFunc)),
  (75, .sc (Value.nilFunc)),
  (76, .sc (Value.nilFunc)),
  (77, .sc (Value.nilFunc)),
  (78, .sc (Value.nilFunc)),
  (79, .st [(0, 1), (1, 1)] [(Value.slice none 0 0), (Value.int IntKind.i64 0)]),
  (80, .st [(0, 1), (1, 1)] [(Value.slice none 0 0), (Value.int IntKind.i64 0)]),
  (81, .sc (Value.nilFunc)),
  (82, .sc (Value.nilFunc)),
  (84, .sc (Value.nilFunc)),
  (85, .sc (Value.nilFunc)),
  (86, .sc (Value.nilFunc)),
  (88, .sc (Value.nilFunc)),
  (89, .sc (Value.nilFunc)),
  (90, .sc (Value.nilFunc)),
  (91, .sc (Value.nilFunc)),
  (92, .sc (Value.nilFunc)),
  (93, .sc (Value.nilFunc)),
  (94, .sc (Value.nilFunc)),
  (95, .st [(0, 1), (1, 1), (2, 1), (3, 1)] [(Value.pointer none), (Value.pointer none), (Value.pointer none), (Value.string (ByteArray.mk #[]))]),
  (96, .st [(0, 1), (1, 1), (2, 1), (3, 1)] [(Value.pointer none), (Value.pointer none), (Value.pointer none), (Value.string (ByteArray.mk #[]))]),
  (98, .st [(0, 0)] []),
  (99, .st [(0, 0)] []),
  (100, .sc (Value.nilFunc)),
  (101, .sc ((Value.int IntKind.u32 0))),
  (102, .sc ((Value.int IntKind.u8 0))),
  (103, .sc ((Value.int IntKind.u8 0))),
  (104, .sc (Value.nilFunc)),
  (105, .sc ((Value.pointer none))),
  (106, .sc ((Value.int IntKind.i32 0))),
  (107, .sc ((Value.int IntKind.i32 0))),
  (108, .st [(0, 1), (1, 1), (2, 1), (3, 1), (4, 1), (5, 1), (6, 1), (7, 1), (8, 1), (9, 1), (10, 1)] [(Value.int IntKind.u64 0), (Value.int IntKind.u64 0), (Value.int IntKind.u32 0), (Value.int IntKind.u8 0), (Value.int IntKind.u8 0), (Value.int IntKind.u8 0), (Value.int IntKind.u8 0), Value.nilFunc, (Value.pointer none), (Value.int IntKind.i32 0), (Value.int IntKind.i32 0)]),
  (109, .st [(0, 1), (1, 1), (2, 1), (3, 1), (4, 1), (5, 1), (6, 1), (7, 1), (8, 1), (9, 1), (10, 1)] [(Value.int IntKind.u64 0), (Value.int IntKind.u64 0), (Value.int IntKind.u32 0), (Value.int IntKind.u8 0), (Value.int IntKind.u8 0), (Value.int IntKind.u8 0), (Value.int IntKind.u8 0), Value.nilFunc, (Value.pointer none), (Value.int IntKind.i32 0), (Value.int IntKind.i32 0)]),
  (110, .sc ((Value.pointer none))),
  (1000027, .eq 27 [.int, .int, .int]),
  (1000028, .eq 28 [.int, .int, .int]),
  (1000070, .eq 70 [.int, .int, .bool]),
  (1000071, .eq 71 [.int, .int, .bool])]
theorem tab1 : InfOK Try.prog 1 (.sc (Value.nilFunc)) := ⟨Try.t1, (TypeDesc.func #[] #[] false), by kernel_rfl, by kernel_rfl, by kernel_rfl, by kernel_rfl, by kernel_rfl, by kernel_rfl, by first | kernel_rfl | trivial⟩
theorem tab2 : InfOK Try.prog 2 (.sc ((Value.int IntKind.i64 0))) := ⟨Try.t2, (TypeDesc.int IntKind.i64), by kernel_rfl, by kernel_rfl, by kernel_rfl, by kernel_rfl, by kernel_rfl, by kernel_rfl, by first | kernel_rfl | trivial⟩
theorem tab3 : InfOK Try.prog 3 (.sc ((Value.int IntKind.i64 0))) := ⟨Try.t3, (TypeDesc.int IntKind.i64), by kernel_rfl, by kernel_rfl, by kernel_rfl, by kernel_rfl, by kernel_rfl, by kernel_rfl, by first | kernel_rfl | trivial⟩
theorem tab4 : InfOK Try.prog 4 (.sc ((Value.bool false))) := ⟨Try.t4, TypeDesc.bool, by kernel_rfl, by kernel_rfl, by kernel_rfl, by kernel_rfl, by kernel_rfl, by kernel_rfl, by first | kernel_rfl | trivial⟩
theorem tab5 : InfOK Try.prog 5 (.sc ((Value.int IntKind.u8 0))) := ⟨Try.t5, (TypeDesc.int IntKind.u8), by kernel_rfl, by kernel_rfl, by kernel_rfl, by kernel_rfl, by kernel_rfl, by kernel_rfl, by first | kernel_rfl | trivial⟩
theorem tab6 : InfOK Try.prog 6 (.sc ((Value.int IntKind.u8 0))) := ⟨Try.t6, (TypeDesc.int IntKind.u8), by kernel_rfl, by kernel_rfl, by kernel_rfl, by kernel_rfl, by kernel_rfl, by kernel_rfl, by first | kernel_rfl | trivial⟩
theorem tab7 : InfOK Try.prog 7 (.st [(0, 1), (1, 1), (2, 1), (3, 1)] [(Value.int IntKind.i64 0), (Value.int IntKind.i64 0), (Value.bool false), (Value.int IntKind.u8 0)]) := ⟨Try.t7, #[(Field.mk "x" 2 0 false "" "runtime" 0), (Field.mk "y" 3 1 false "" "runtime" 8), (Field.mk "signed" 4 2 false "" "runtime" 16), (Field.mk "code" 6 3 false "" "runtime" 17)], by kernel_rfl, by kernel_rfl, by kernel_rfl, by kernel_rfl, by kernel_rfl, by kernel_rfl, fun n f h => by
    match n with
    | 0 => injection h with h; subst h; exact ⟨Try.t2, by kernel_rfl, by kernel_rfl, _, Try.underlying2, fun _ => rfl⟩
    | 1 => injection h with h; subst h; exact ⟨Try.t3, by kernel_rfl, by kernel_rfl, _, Try.underlying3, fun _ => rfl⟩
    | 2 => injection h with h; subst h; exact ⟨Try.t4, by kernel_rfl, by kernel_rfl, _, Try.underlying4, fun _ => rfl⟩
    | 3 => injection h with h; subst h; exact ⟨Try.t6, by kernel_rfl, by kernel_rfl, _, Try.underlying6, fun _ => rfl⟩
    | n + 4 => simp at h⟩
theorem tab8 : InfOK Try.prog 8 (.st [(0, 1), (1, 1), (2, 1), (3, 1)] [(Value.int IntKind.i64 0), (Value.int IntKind.i64 0), (Value.bool false), (Value.int IntKind.u8 0)]) := ⟨Try.t8, #[(Field.mk "x" 2 0 false "" "runtime" 0), (Field.mk "y" 3 1 false "" "runtime" 8), (Field.mk "signed" 4 2 false "" "runtime" 16), (Field.mk "code" 6 3 false "" "runtime" 17)], by kernel_rfl, by kernel_rfl, by kernel_rfl, by kernel_rfl, by kernel_rfl, by kernel_rfl, fun n f h => by
    match n with
    | 0 => injection h with h; subst h; exact ⟨Try.t2, by kernel_rfl, by kernel_rfl, _, Try.underlying2, fun _ => rfl⟩
    | 1 => injection h with h; subst h; exact ⟨Try.t3, by kernel_rfl, by kernel_rfl, _, Try.underlying3, fun _ => rfl⟩
    | 2 => injection h with h; subst h; exact ⟨Try.t4, by kernel_rfl, by kernel_rfl, _, Try.underlying4, fun _ => rfl⟩
    | 3 => injection h with h; subst h; exact ⟨Try.t6, by kernel_rfl, by kernel_rfl, _, Try.underlying6, fun _ => rfl⟩
    | n + 4 => simp at h⟩
theorem tab9 : InfOK Try.prog 9 (.sc ((Value.string (ByteArray.mk #[])))) := ⟨Try.t9, TypeDesc.string, by kernel_rfl, by kernel_rfl, by kernel_rfl, by kernel_rfl, by kernel_rfl, by kernel_rfl, by first | kernel_rfl | trivial⟩
theorem tab10 : InfOK Try.prog 10 (.sc ((Value.string (ByteArray.mk #[])))) := ⟨Try.t10, TypeDesc.string, by kernel_rfl, by kernel_rfl, by kernel_rfl, by kernel_rfl, by kernel_rfl, by kernel_rfl, by first | kernel_rfl | trivial⟩
theorem tab11 : InfOK Try.prog 11 (.sc ((Value.string (ByteArray.mk #[])))) := ⟨Try.t11, TypeDesc.string, by kernel_rfl, by kernel_rfl, by kernel_rfl, by kernel_rfl, by kernel_rfl, by kernel_rfl, by first | kernel_rfl | trivial⟩
theorem tab12 : InfOK Try.prog 12 (.sc ((Value.int IntKind.u64 0))) := ⟨Try.t12, (TypeDesc.int IntKind.u64), by kernel_rfl, by kernel_rfl, by kernel_rfl, by kernel_rfl, by kernel_rfl, by kernel_rfl, by first | kernel_rfl | trivial⟩
theorem tab13 : InfOK Try.prog 13 (.st [(0, 1), (1, 1)] [(Value.string (ByteArray.mk #[])), (Value.int IntKind.u64 0)]) := ⟨Try.t13, #[(Field.mk "msg" 9 0 false "" "runtime" 0), (Field.mk "addr" 12 1 false "" "runtime" 16)], by kernel_rfl, by kernel_rfl, by kernel_rfl, by kernel_rfl, by kernel_rfl, by kernel_rfl, fun n f h => by
    match n with
    | 0 => injection h with h; subst h; exact ⟨Try.t9, by kernel_rfl, by kernel_rfl, _, Try.underlying9, fun _ => rfl⟩
    | 1 => injection h with h; subst h; exact ⟨Try.t12, by kernel_rfl, by kernel_rfl, _, Try.underlying12, fun _ => rfl⟩
    | n + 2 => simp at h⟩
theorem tab14 : InfOK Try.prog 14 (.st [(0, 1), (1, 1)] [(Value.string (ByteArray.mk #[])), (Value.int IntKind.u64 0)]) := ⟨Try.t14, #[(Field.mk "msg" 9 0 false "" "runtime" 0), (Field.mk "addr" 12 1 false "" "runtime" 16)], by kernel_rfl, by kernel_rfl, by kernel_rfl, by kernel_rfl, by kernel_rfl, by kernel_rfl, fun n f h => by
    match n with
    | 0 => injection h with h; subst h; exact ⟨Try.t9, by kernel_rfl, by kernel_rfl, _, Try.underlying9, fun _ => rfl⟩
    | 1 => injection h with h; subst h; exact ⟨Try.t12, by kernel_rfl, by kernel_rfl, _, Try.underlying12, fun _ => rfl⟩
    | n + 2 => simp at h⟩
theorem tab15 : InfOK Try.prog 15 (.sc ((Value.pointer none))) := ⟨Try.t15, (TypeDesc.pointer 96), by kernel_rfl, by kernel_rfl, by kernel_rfl, by kernel_rfl, by kernel_rfl, by kernel_rfl, by first | kernel_rfl | trivial⟩
theorem tab16 : InfOK Try.prog 16 (.sc ((Value.pointer none))) := ⟨Try.t16, (TypeDesc.pointer 99), by kernel_rfl, by kernel_rfl, by kernel_rfl, by kernel_rfl, by kernel_rfl, by kernel_rfl, by first | kernel_rfl | trivial⟩
theorem tab17 : InfOK Try.prog 17 (.sc ((Value.pointer none))) := ⟨Try.t17, (TypeDesc.pointer 109), by kernel_rfl, by kernel_rfl, by kernel_rfl, by kernel_rfl, by kernel_rfl, by kernel_rfl, by first | kernel_rfl | trivial⟩
theorem tab18 : InfOK Try.prog 18 (.st [(0, 1)] [(Value.pointer none)]) := ⟨Try.t18, #[(Field.mk "typ" 17 0 false "" "internal/runtime/maps" 0)], by kernel_rfl, by kernel_rfl, by kernel_rfl, by kernel_rfl, by kernel_rfl, by kernel_rfl, fun n f h => by
    match n with
    | 0 => injection h with h; subst h; exact ⟨Try.t17, by kernel_rfl, by kernel_rfl, _, Try.underlying17, fun _ => rfl⟩
    | n + 1 => simp at h⟩
theorem tab19 : InfOK Try.prog 19 (.st [(0, 1)] [(Value.pointer none)]) := ⟨Try.t19, #[(Field.mk "typ" 17 0 false "" "internal/runtime/maps" 0)], by kernel_rfl, by kernel_rfl, by kernel_rfl, by kernel_rfl, by kernel_rfl, by kernel_rfl, fun n f h => by
    match n with
    | 0 => injection h with h; subst h; exact ⟨Try.t17, by kernel_rfl, by kernel_rfl, _, Try.underlying17, fun _ => rfl⟩
    | n + 1 => simp at h⟩
theorem tab20 : InfOK Try.prog 20 (.sc (Value.nilIface)) := ⟨Try.t20, (TypeDesc.interface #[]), by kernel_rfl, by kernel_rfl, by kernel_rfl, by kernel_rfl, by kernel_rfl, by kernel_rfl, by first | kernel_rfl | trivial⟩
theorem tab21 : InfOK Try.prog 21 (.sc ((Value.int IntKind.i32 0))) := ⟨Try.t21, (TypeDesc.int IntKind.i32), by kernel_rfl, by kernel_rfl, by kernel_rfl, by kernel_rfl, by kernel_rfl, by kernel_rfl, by first | kernel_rfl | trivial⟩
theorem tab22 : InfOK Try.prog 22 (.sl 5 .u8) := ⟨Try.t5, by kernel_rfl, by kernel_rfl, by kernel_rfl, ⟨(Value.int IntKind.u8 0), by kernel_rfl, by kernel_rfl⟩, by decide, by decide, Try.t22, by kernel_rfl, by kernel_rfl, by kernel_rfl⟩
theorem tab24 : InfOK Try.prog 24 (.sc (Value.nilFunc)) := ⟨Try.t24, (TypeDesc.func #[22] #[3, 3] false), by kernel_rfl, by kernel_rfl, by kernel_rfl, by kernel_rfl, by kernel_rfl, by kernel_rfl, by first | kernel_rfl | trivial⟩
theorem tab25 : InfOK Try.prog 25 (.sc (Value.nilFunc)) := ⟨Try.t25, (TypeDesc.func #[3, 3] #[3] false), by kernel_rfl, by kernel_rfl, by kernel_rfl, by kernel_rfl, by kernel_rfl, by kernel_rfl, by first | kernel_rfl | trivial⟩
theorem tab26 : InfOK Try.prog 26 (.sc (Value.nilFunc)) := ⟨Try.t26, (TypeDesc.func #[22] #[4] false), by kernel_rfl, by kernel_rfl, by kernel_rfl, by kernel_rfl, by kernel_rfl, by kernel_rfl, by first | kernel_rfl | trivial⟩
theorem tab27 : InfOK Try.prog 27 (.st [(0, 1), (1, 1), (2, 1)] [(Value.int IntKind.i64 0), (Value.int IntKind.i64 0), (Value.int IntKind.i64 0)]) := ⟨Try.t27, #[(Field.mk "At" 3 0 false "" "" 0), (Field.mk "Step" 3 1 false "" "" 8), (Field.mk "Ratio" 3 2 false "" "" 16)], by kernel_rfl, by kernel_rfl, by kernel_rfl, by kernel_rfl, by kernel_rfl, by kernel_rfl, fun n f h => by
    match n with
    | 0 => injection h with h; subst h; exact ⟨Try.t3, by kernel_rfl, by kernel_rfl, _, Try.underlying3, fun _ => rfl⟩
    | 1 => injection h with h; subst h; exact ⟨Try.t3, by kernel_rfl, by kernel_rfl, _, Try.underlying3, fun _ => rfl⟩
    | 2 => injection h with h; subst h; exact ⟨Try.t3, by kernel_rfl, by kernel_rfl, _, Try.underlying3, fun _ => rfl⟩
    | n + 3 => simp at h⟩
theorem tab28 : InfOK Try.prog 28 (.st [(0, 1), (1, 1), (2, 1)] [(Value.int IntKind.i64 0), (Value.int IntKind.i64 0), (Value.int IntKind.i64 0)]) := ⟨Try.t28, #[(Field.mk "At" 3 0 false "" "" 0), (Field.mk "Step" 3 1 false "" "" 8), (Field.mk "Ratio" 3 2 false "" "" 16)], by kernel_rfl, by kernel_rfl, by kernel_rfl, by kernel_rfl, by kernel_rfl, by kernel_rfl, fun n f h => by
    match n with
    | 0 => injection h with h; subst h; exact ⟨Try.t3, by kernel_rfl, by kernel_rfl, _, Try.underlying3, fun _ => rfl⟩
    | 1 => injection h with h; subst h; exact ⟨Try.t3, by kernel_rfl, by kernel_rfl, _, Try.underlying3, fun _ => rfl⟩
    | 2 => injection h with h; subst h; exact ⟨Try.t3, by kernel_rfl, by kernel_rfl, _, Try.underlying3, fun _ => rfl⟩
    | n + 3 => simp at h⟩
theorem tab29 : InfOK Try.prog 29 (.sc (Value.nilFunc)) := ⟨Try.t29, (TypeDesc.func #[22] #[28] false), by kernel_rfl, by kernel_rfl, by kernel_rfl, by kernel_rfl, by kernel_rfl, by kernel_rfl, by first | kernel_rfl | trivial⟩
theorem tab30 : InfOK Try.prog 30 (.sc (Value.nilFunc)) := ⟨Try.t30, (TypeDesc.func #[28] #[4] false), by kernel_rfl, by kernel_rfl, by kernel_rfl, by kernel_rfl, by kernel_rfl, by kernel_rfl, by first | kernel_rfl | trivial⟩
theorem tab32 : InfOK Try.prog 32 (.sc (Value.nilFunc)) := ⟨Try.t32, (TypeDesc.func #[22] #[28, 3] false), by kernel_rfl, by kernel_rfl, by kernel_rfl, by kernel_rfl, by kernel_rfl, by kernel_rfl, by first | kernel_rfl | trivial⟩
theorem tab34 : InfOK Try.prog 34 (.sc (Value.nilFunc)) := ⟨Try.t34, (TypeDesc.func #[28, 3] #[28, 4] false), by kernel_rfl, by kernel_rfl, by kernel_rfl, by kernel_rfl, by kernel_rfl, by kernel_rfl, by first | kernel_rfl | trivial⟩
theorem tab35 : InfOK Try.prog 35 (.sl 3 .int) := ⟨Try.t3, by kernel_rfl, by kernel_rfl, by kernel_rfl, ⟨(Value.int IntKind.i64 0), by kernel_rfl, by kernel_rfl⟩, by decide, by decide, Try.t35, by kernel_rfl, by kernel_rfl, by kernel_rfl⟩
theorem tab37 : InfOK Try.prog 37 (.sc (Value.nilFunc)) := ⟨Try.t37, (TypeDesc.func #[22] #[35, 3] false), by kernel_rfl, by kernel_rfl, by kernel_rfl, by kernel_rfl, by kernel_rfl, by kernel_rfl, by first | kernel_rfl | trivial⟩
theorem tab38 : InfOK Try.prog 38 (.sc (Value.nilFunc)) := ⟨Try.t38, (TypeDesc.func #[35, 3] #[3] false), by kernel_rfl, by kernel_rfl, by kernel_rfl, by kernel_rfl, by kernel_rfl, by kernel_rfl, by first | kernel_rfl | trivial⟩
theorem tab39 : InfOK Try.prog 39 (.st [(0, 1), (1, 1), (2, 1), (3, 1)] [(Value.int IntKind.i64 0), (Value.int IntKind.i64 0), (Value.slice none 0 0), (Value.slice none 0 0)]) := ⟨Try.t39, #[(Field.mk "Trial" 3 0 false "" "" 0), (Field.mk "Safe" 3 1 false "" "" 8), (Field.mk "New" 35 2 false "" "" 16), (Field.mk "Old" 35 3 false "" "" 40)], by kernel_rfl, by kernel_rfl, by kernel_rfl, by kernel_rfl, by kernel_rfl, by kernel_rfl, fun n f h => by
    match n with
    | 0 => injection h with h; subst h; exact ⟨Try.t3, by kernel_rfl, by kernel_rfl, _, Try.underlying3, fun _ => rfl⟩
    | 1 => injection h with h; subst h; exact ⟨Try.t3, by kernel_rfl, by kernel_rfl, _, Try.underlying3, fun _ => rfl⟩
    | 2 => injection h with h; subst h; exact ⟨Try.t35, by kernel_rfl, by kernel_rfl, _, Try.underlying35, fun _ => rfl⟩
    | 3 => injection h with h; subst h; exact ⟨Try.t35, by kernel_rfl, by kernel_rfl, _, Try.underlying35, fun _ => rfl⟩
    | n + 4 => simp at h⟩
theorem tab40 : InfOK Try.prog 40 (.st [(0, 1), (1, 1), (2, 1), (3, 1)] [(Value.int IntKind.i64 0), (Value.int IntKind.i64 0), (Value.slice none 0 0), (Value.slice none 0 0)]) := ⟨Try.t40, #[(Field.mk "Trial" 3 0 false "" "" 0), (Field.mk "Safe" 3 1 false "" "" 8), (Field.mk "New" 35 2 false "" "" 16), (Field.mk "Old" 35 3 false "" "" 40)], by kernel_rfl, by kernel_rfl, by kernel_rfl, by kernel_rfl, by kernel_rfl, by kernel_rfl, fun n f h => by
    match n with
    | 0 => injection h with h; subst h; exact ⟨Try.t3, by kernel_rfl, by kernel_rfl, _, Try.underlying3, fun _ => rfl⟩
    | 1 => injection h with h; subst h; exact ⟨Try.t3, by kernel_rfl, by kernel_rfl, _, Try.underlying3, fun _ => rfl⟩
    | 2 => injection h with h; subst h; exact ⟨Try.t35, by kernel_rfl, by kernel_rfl, _, Try.underlying35, fun _ => rfl⟩
    | 3 => injection h with h; subst h; exact ⟨Try.t35, by kernel_rfl, by kernel_rfl, _, Try.underlying35, fun _ => rfl⟩
    | n + 4 => simp at h⟩
theorem tab42 : InfOK Try.prog 42 (.sc (Value.nilFunc)) := ⟨Try.t42, (TypeDesc.func #[35, 3, 3] #[40, 3] false), by kernel_rfl, by kernel_rfl, by kernel_rfl, by kernel_rfl, by kernel_rfl, by kernel_rfl, by first | kernel_rfl | trivial⟩
theorem tab43 : InfOK Try.prog 43 (.sl 71 .iib) := ⟨Try.t71, by kernel_rfl, by kernel_rfl, by kernel_rfl, ⟨(Value.agg #[(Value.int IntKind.i64 0), (Value.int IntKind.i64 0), (Value.bool false)]), by kernel_rfl, by kernel_rfl⟩, by decide, by decide, Try.t43, by kernel_rfl, by kernel_rfl, by kernel_rfl⟩
theorem tab44 : InfOK Try.prog 44 (.st [(0, 1), (1, 1), (2, 1)] [(Value.slice none 0 0), (Value.slice none 0 0), (Value.int IntKind.i64 0)]) := ⟨Try.t44, #[(Field.mk "Store" 35 0 false "" "" 0), (Field.mk "Lines" 43 1 false "" "" 24), (Field.mk "Room" 3 2 false "" "" 48)], by kernel_rfl, by kernel_rfl, by kernel_rfl, by kernel_rfl, by kernel_rfl, by kernel_rfl, fun n f h => by
    match n with
    | 0 => injection h with h; subst h; exact ⟨Try.t35, by kernel_rfl, by kernel_rfl, _, Try.underlying35, fun _ => rfl⟩
    | 1 => injection h with h; subst h; exact ⟨Try.t43, by kernel_rfl, by kernel_rfl, _, Try.underlying43, fun _ => rfl⟩
    | 2 => injection h with h; subst h; exact ⟨Try.t3, by kernel_rfl, by kernel_rfl, _, Try.underlying3, fun _ => rfl⟩
    | n + 3 => simp at h⟩
theorem tab45 : InfOK Try.prog 45 (.st [(0, 1), (1, 1), (2, 1)] [(Value.slice none 0 0), (Value.slice none 0 0), (Value.int IntKind.i64 0)]) := ⟨Try.t45, #[(Field.mk "Store" 35 0 false "" "" 0), (Field.mk "Lines" 43 1 false "" "" 24), (Field.mk "Room" 3 2 false "" "" 48)], by kernel_rfl, by kernel_rfl, by kernel_rfl, by kernel_rfl, by kernel_rfl, by kernel_rfl, fun n f h => by
    match n with
    | 0 => injection h with h; subst h; exact ⟨Try.t35, by kernel_rfl, by kernel_rfl, _, Try.underlying35, fun _ => rfl⟩
    | 1 => injection h with h; subst h; exact ⟨Try.t43, by kernel_rfl, by kernel_rfl, _, Try.underlying43, fun _ => rfl⟩
    | 2 => injection h with h; subst h; exact ⟨Try.t3, by kernel_rfl, by kernel_rfl, _, Try.underlying3, fun _ => rfl⟩
    | n + 3 => simp at h⟩
theorem tab47 : InfOK Try.prog 47 (.sc (Value.nilFunc)) := ⟨Try.t47, (TypeDesc.func #[22] #[45, 3] false), by kernel_rfl, by kernel_rfl, by kernel_rfl, by kernel_rfl, by kernel_rfl, by kernel_rfl, by first | kernel_rfl | trivial⟩
theorem tab49 : InfOK Try.prog 49 (.sc (Value.nilFunc)) := ⟨Try.t49, (TypeDesc.func #[45, 3] #[45, 3, 4] false), by kernel_rfl, by kernel_rfl, by kernel_rfl, by kernel_rfl, by kernel_rfl, by kernel_rfl, by first | kernel_rfl | trivial⟩
theorem tab50 : InfOK Try.prog 50 (.sc (Value.nilFunc)) := ⟨Try.t50, (TypeDesc.func #[45, 45] #[4] false), by kernel_rfl, by kernel_rfl, by kernel_rfl, by kernel_rfl, by kernel_rfl, by kernel_rfl, by first | kernel_rfl | trivial⟩
theorem tab51 : InfOK Try.prog 51 (.sc (Value.nilFunc)) := ⟨Try.t51, (TypeDesc.func #[22] #[45] false), by kernel_rfl, by kernel_rfl, by kernel_rfl, by kernel_rfl, by kernel_rfl, by kernel_rfl, by first | kernel_rfl | trivial⟩
theorem tab53 : InfOK Try.prog 53 (.sc (Value.nilFunc)) := ⟨Try.t53, (TypeDesc.func #[45] #[45, 4] false), by kernel_rfl, by kernel_rfl, by kernel_rfl, by kernel_rfl, by kernel_rfl, by kernel_rfl, by first | kernel_rfl | trivial⟩
theorem tab55 : InfOK Try.prog 55 (.sc (Value.nilFunc)) := ⟨Try.t55, (TypeDesc.func #[45, 3] #[3, 4] false), by kernel_rfl, by kernel_rfl, by kernel_rfl, by kernel_rfl, by kernel_rfl, by kernel_rfl, by first | kernel_rfl | trivial⟩
theorem tab56 : InfOK Try.prog 56 (.sc ((Value.pointer none))) := ⟨Try.t56, (TypeDesc.pointer 80), by kernel_rfl, by kernel_rfl, by kernel_rfl, by kernel_rfl, by kernel_rfl, by kernel_rfl, by first | kernel_rfl | trivial⟩
theorem tab57 : InfOK Try.prog 57 (.sc (Value.nilFunc)) := ⟨Try.t57, (TypeDesc.func #[22] #[56] false), by kernel_rfl, by kernel_rfl, by kernel_rfl, by kernel_rfl, by kernel_rfl, by kernel_rfl, by first | kernel_rfl | trivial⟩
theorem tab58 : InfOK Try.prog 58 (.sc (Value.nilFunc)) := ⟨Try.t58, (TypeDesc.func #[35] #[3] false), by kernel_rfl, by kernel_rfl, by kernel_rfl, by kernel_rfl, by kernel_rfl, by kernel_rfl, by first | kernel_rfl | trivial⟩
theorem tab59 : InfOK Try.prog 59 (.sc (Value.nilFunc)) := ⟨Try.t59, (TypeDesc.func #[3, 3, 3] #[4] false), by kernel_rfl, by kernel_rfl, by kernel_rfl, by kernel_rfl, by kernel_rfl, by kernel_rfl, by first | kernel_rfl | trivial⟩
theorem tab60 : InfOK Try.prog 60 (.sc (Value.nilFunc)) := ⟨Try.t60, (TypeDesc.func #[3] #[3] false), by kernel_rfl, by kernel_rfl, by kernel_rfl, by kernel_rfl, by kernel_rfl, by kernel_rfl, by first | kernel_rfl | trivial⟩
theorem tab61 : InfOK Try.prog 61 (.sc (Value.nilFunc)) := ⟨Try.t61, (TypeDesc.func #[3] #[4] false), by kernel_rfl, by kernel_rfl, by kernel_rfl, by kernel_rfl, by kernel_rfl, by kernel_rfl, by first | kernel_rfl | trivial⟩
theorem tab62 : InfOK Try.prog 62 (.sc (Value.nilFunc)) := ⟨Try.t62, (TypeDesc.func #[56] #[28] false), by kernel_rfl, by kernel_rfl, by kernel_rfl, by kernel_rfl, by kernel_rfl, by kernel_rfl, by first | kernel_rfl | trivial⟩
theorem tab63 : InfOK Try.prog 63 (.sc (Value.nilFunc)) := ⟨Try.t63, (TypeDesc.func #[35] #[4] false), by kernel_rfl, by kernel_rfl, by kernel_rfl, by kernel_rfl, by kernel_rfl, by kernel_rfl, by first | kernel_rfl | trivial⟩
theorem tab64 : InfOK Try.prog 64 (.sc (Value.nilFunc)) := ⟨Try.t64, (TypeDesc.func #[3, 3, 60] #[3] false), by kernel_rfl, by kernel_rfl, by kernel_rfl, by kernel_rfl, by kernel_rfl, by kernel_rfl, by first | kernel_rfl | trivial⟩
theorem tab65 : InfOK Try.prog 65 (.sc (Value.nilFunc)) := ⟨Try.t65, (TypeDesc.func #[35, 40, 66] #[40, 3] false), by kernel_rfl, by kernel_rfl, by kernel_rfl, by kernel_rfl, by kernel_rfl, by kernel_rfl, by first | kernel_rfl | trivial⟩
theorem tab66 : InfOK Try.prog 66 (.sc (Value.nilFunc)) := ⟨Try.t66, (TypeDesc.func #[40, 3] #[40, 4] false), by kernel_rfl, by kernel_rfl, by kernel_rfl, by kernel_rfl, by kernel_rfl, by kernel_rfl, by first | kernel_rfl | trivial⟩
theorem tab67 : InfOK Try.prog 67 (.sc (Value.nilFunc)) := ⟨Try.t67, (TypeDesc.func #[56] #[45] false), by kernel_rfl, by kernel_rfl, by kernel_rfl, by kernel_rfl, by kernel_rfl, by kernel_rfl, by first | kernel_rfl | trivial⟩
theorem tab68 : InfOK Try.prog 68 (.sc (Value.nilFunc)) := ⟨Try.t68, (TypeDesc.func #[56] #[3] false), by kernel_rfl, by kernel_rfl, by kernel_rfl, by kernel_rfl, by kernel_rfl, by kernel_rfl, by first | kernel_rfl | trivial⟩
theorem tab69 : InfOK Try.prog 69 (.sc (Value.nilFunc)) := ⟨Try.t69, (TypeDesc.func #[45] #[4] false), by kernel_rfl, by kernel_rfl, by kernel_rfl, by kernel_rfl, by kernel_rfl, by kernel_rfl, by first | kernel_rfl | trivial⟩
theorem tab70 : InfOK Try.prog 70 (.st [(0, 1), (1, 1), (2, 1)] [(Value.int IntKind.i64 0), (Value.int IntKind.i64 0), (Value.bool false)]) := ⟨Try.t70, #[(Field.mk "Key" 3 0 false "" "" 0), (Field.mk "Value" 3 1 false "" "" 8), (Field.mk "Dirty" 4 2 false "" "" 16)], by kernel_rfl, by kernel_rfl, by kernel_rfl, by kernel_rfl, by kernel_rfl, by kernel_rfl, fun n f h => by
    match n with
    | 0 => injection h with h; subst h; exact ⟨Try.t3, by kernel_rfl, by kernel_rfl, _, Try.underlying3, fun _ => rfl⟩
    | 1 => injection h with h; subst h; exact ⟨Try.t3, by kernel_rfl, by kernel_rfl, _, Try.underlying3, fun _ => rfl⟩
    | 2 => injection h with h; subst h; exact ⟨Try.t4, by kernel_rfl, by kernel_rfl, _, Try.underlying4, fun _ => rfl⟩
    | n + 3 => simp at h⟩
theorem tab71 : InfOK Try.prog 71 (.st [(0, 1), (1, 1), (2, 1)] [(Value.int IntKind.i64 0), (Value.int IntKind.i64 0), (Value.bool false)]) := ⟨Try.t71, #[(Field.mk "Key" 3 0 false "" "" 0), (Field.mk "Value" 3 1 false "" "" 8), (Field.mk "Dirty" 4 2 false "" "" 16)], by kernel_rfl, by kernel_rfl, by kernel_rfl, by kernel_rfl, by kernel_rfl, by kernel_rfl, fun n f h => by
    match n with
    | 0 => injection h with h; subst h; exact ⟨Try.t3, by kernel_rfl, by kernel_rfl, _, Try.underlying3, fun _ => rfl⟩
    | 1 => injection h with h; subst h; exact ⟨Try.t3, by kernel_rfl, by kernel_rfl, _, Try.underlying3, fun _ => rfl⟩
    | 2 => injection h with h; subst h; exact ⟨Try.t4, by kernel_rfl, by kernel_rfl, _, Try.underlying4, fun _ => rfl⟩
    | n + 3 => simp at h⟩
theorem tab72 : InfOK Try.prog 72 (.sc (Value.nilFunc)) := ⟨Try.t72, (TypeDesc.func #[45, 3] #[71] false), by kernel_rfl, by kernel_rfl, by kernel_rfl, by kernel_rfl, by kernel_rfl, by kernel_rfl, by first | kernel_rfl | trivial⟩
theorem tab73 : InfOK Try.prog 73 (.sc (Value.nilFunc)) := ⟨Try.t73, (TypeDesc.func #[45, 71] #[45] false), by kernel_rfl, by kernel_rfl, by kernel_rfl, by kernel_rfl, by kernel_rfl, by kernel_rfl, by first | kernel_rfl | trivial⟩
theorem tab74 : InfOK Try.prog 74 (.sc (Value.nilFunc)) := ⟨Try.t74, (TypeDesc.func #[45, 3] #[45] false), by kernel_rfl, by kernel_rfl, by kernel_rfl, by kernel_rfl, by kernel_rfl, by kernel_rfl, by first | kernel_rfl | trivial⟩
theorem tab75 : InfOK Try.prog 75 (.sc (Value.nilFunc)) := ⟨Try.t75, (TypeDesc.func #[35, 35] #[4] false), by kernel_rfl, by kernel_rfl, by kernel_rfl, by kernel_rfl, by kernel_rfl, by kernel_rfl, by first | kernel_rfl | trivial⟩
theorem tab76 : InfOK Try.prog 76 (.sc (Value.nilFunc)) := ⟨Try.t76, (TypeDesc.func #[43, 43] #[4] false), by kernel_rfl, by kernel_rfl, by kernel_rfl, by kernel_rfl, by kernel_rfl, by kernel_rfl, by first | kernel_rfl | trivial⟩
theorem tab77 : InfOK Try.prog 77 (.sc (Value.nilFunc)) := ⟨Try.t77, (TypeDesc.func #[35] #[35] false), by kernel_rfl, by kernel_rfl, by kernel_rfl, by kernel_rfl, by kernel_rfl, by kernel_rfl, by first | kernel_rfl | trivial⟩
theorem tab78 : InfOK Try.prog 78 (.sc (Value.nilFunc)) := ⟨Try.t78, (TypeDesc.func #[45] #[45] false), by kernel_rfl, by kernel_rfl, by kernel_rfl, by kernel_rfl, by kernel_rfl, by kernel_rfl, by first | kernel_rfl | trivial⟩
theorem tab79 : InfOK Try.prog 79 (.st [(0, 1), (1, 1)] [(Value.slice none 0 0), (Value.int IntKind.i64 0)]) := ⟨Try.t79, #[(Field.mk "b" 22 0 false "" "loop.example/cacheengine/spec" 0), (Field.mk "p" 3 1 false "" "loop.example/cacheengine/spec" 24)], by kernel_rfl, by kernel_rfl, by kernel_rfl, by kernel_rfl, by kernel_rfl, by kernel_rfl, fun n f h => by
    match n with
    | 0 => injection h with h; subst h; exact ⟨Try.t22, by kernel_rfl, by kernel_rfl, _, Try.underlying22, fun _ => rfl⟩
    | 1 => injection h with h; subst h; exact ⟨Try.t3, by kernel_rfl, by kernel_rfl, _, Try.underlying3, fun _ => rfl⟩
    | n + 2 => simp at h⟩
theorem tab80 : InfOK Try.prog 80 (.st [(0, 1), (1, 1)] [(Value.slice none 0 0), (Value.int IntKind.i64 0)]) := ⟨Try.t80, #[(Field.mk "b" 22 0 false "" "loop.example/cacheengine/spec" 0), (Field.mk "p" 3 1 false "" "loop.example/cacheengine/spec" 24)], by kernel_rfl, by kernel_rfl, by kernel_rfl, by kernel_rfl, by kernel_rfl, by kernel_rfl, fun n f h => by
    match n with
    | 0 => injection h with h; subst h; exact ⟨Try.t22, by kernel_rfl, by kernel_rfl, _, Try.underlying22, fun _ => rfl⟩
    | 1 => injection h with h; subst h; exact ⟨Try.t3, by kernel_rfl, by kernel_rfl, _, Try.underlying3, fun _ => rfl⟩
    | n + 2 => simp at h⟩
theorem tab81 : InfOK Try.prog 81 (.sc (Value.nilFunc)) := ⟨Try.t81, (TypeDesc.func #[56] #[35] false), by kernel_rfl, by kernel_rfl, by kernel_rfl, by kernel_rfl, by kernel_rfl, by kernel_rfl, by first | kernel_rfl | trivial⟩
theorem tab82 : InfOK Try.prog 82 (.sc (Value.nilFunc)) := ⟨Try.t82, (TypeDesc.func #[35, 3, 3] #[4] false), by kernel_rfl, by kernel_rfl, by kernel_rfl, by kernel_rfl, by kernel_rfl, by kernel_rfl, by first | kernel_rfl | trivial⟩
theorem tab84 : InfOK Try.prog 84 (.sc (Value.nilFunc)) := ⟨Try.t84, (TypeDesc.func #[4] #[3] false), by kernel_rfl, by kernel_rfl, by kernel_rfl, by kernel_rfl, by kernel_rfl, by kernel_rfl, by first | kernel_rfl | trivial⟩
theorem tab85 : InfOK Try.prog 85 (.sc (Value.nilFunc)) := ⟨Try.t85, (TypeDesc.func #[40] #[4] false), by kernel_rfl, by kernel_rfl, by kernel_rfl, by kernel_rfl, by kernel_rfl, by kernel_rfl, by first | kernel_rfl | trivial⟩
theorem tab86 : InfOK Try.prog 86 (.sc (Value.nilFunc)) := ⟨Try.t86, (TypeDesc.func #[35, 3] #[4] false), by kernel_rfl, by kernel_rfl, by kernel_rfl, by kernel_rfl, by kernel_rfl, by kernel_rfl, by first | kernel_rfl | trivial⟩
theorem tab88 : InfOK Try.prog 88 (.sc (Value.nilFunc)) := ⟨Try.t88, (TypeDesc.func #[35, 3, 3] #[35, 4] false), by kernel_rfl, by kernel_rfl, by kernel_rfl, by kernel_rfl, by kernel_rfl, by kernel_rfl, by first | kernel_rfl | trivial⟩
theorem tab89 : InfOK Try.prog 89 (.sc (Value.nilFunc)) := ⟨Try.t89, (TypeDesc.func #[35, 3] #[35] false), by kernel_rfl, by kernel_rfl, by kernel_rfl, by kernel_rfl, by kernel_rfl, by kernel_rfl, by first | kernel_rfl | trivial⟩
theorem tab90 : InfOK Try.prog 90 (.sc (Value.nilFunc)) := ⟨Try.t90, (TypeDesc.func #[43] #[35] false), by kernel_rfl, by kernel_rfl, by kernel_rfl, by kernel_rfl, by kernel_rfl, by kernel_rfl, by first | kernel_rfl | trivial⟩
theorem tab91 : InfOK Try.prog 91 (.sc (Value.nilFunc)) := ⟨Try.t91, (TypeDesc.func #[43] #[43] false), by kernel_rfl, by kernel_rfl, by kernel_rfl, by kernel_rfl, by kernel_rfl, by kernel_rfl, by first | kernel_rfl | trivial⟩
theorem tab92 : InfOK Try.prog 92 (.sc (Value.nilFunc)) := ⟨Try.t92, (TypeDesc.func #[43, 3] #[4] false), by kernel_rfl, by kernel_rfl, by kernel_rfl, by kernel_rfl, by kernel_rfl, by kernel_rfl, by first | kernel_rfl | trivial⟩
theorem tab93 : InfOK Try.prog 93 (.sc (Value.nilFunc)) := ⟨Try.t93, (TypeDesc.func #[45, 3] #[3] false), by kernel_rfl, by kernel_rfl, by kernel_rfl, by kernel_rfl, by kernel_rfl, by kernel_rfl, by first | kernel_rfl | trivial⟩
theorem tab94 : InfOK Try.prog 94 (.sc (Value.nilFunc)) := ⟨Try.t94, (TypeDesc.func #[] #[9] false), by kernel_rfl, by kernel_rfl, by kernel_rfl, by kernel_rfl, by kernel_rfl, by kernel_rfl, by first | kernel_rfl | trivial⟩
theorem tab95 : InfOK Try.prog 95 (.st [(0, 1), (1, 1), (2, 1), (3, 1)] [(Value.pointer none), (Value.pointer none), (Value.pointer none), (Value.string (ByteArray.mk #[]))]) := ⟨Try.t95, #[(Field.mk "_interface" 17 0 false "" "runtime" 0), (Field.mk "concrete" 17 1 false "" "runtime" 8), (Field.mk "asserted" 17 2 false "" "runtime" 16), (Field.mk "missingMethod" 9 3 false "" "runtime" 24)], by kernel_rfl, by kernel_rfl, by kernel_rfl, by kernel_rfl, by kernel_rfl, by kernel_rfl, fun n f h => by
    match n with
    | 0 => injection h with h; subst h; exact ⟨Try.t17, by kernel_rfl, by kernel_rfl, _, Try.underlying17, fun _ => rfl⟩
    | 1 => injection h with h; subst h; exact ⟨Try.t17, by kernel_rfl, by kernel_rfl, _, Try.underlying17, fun _ => rfl⟩
    | 2 => injection h with h; subst h; exact ⟨Try.t17, by kernel_rfl, by kernel_rfl, _, Try.underlying17, fun _ => rfl⟩
    | 3 => injection h with h; subst h; exact ⟨Try.t9, by kernel_rfl, by kernel_rfl, _, Try.underlying9, fun _ => rfl⟩
    | n + 4 => simp at h⟩
theorem tab96 : InfOK Try.prog 96 (.st [(0, 1), (1, 1), (2, 1), (3, 1)] [(Value.pointer none), (Value.pointer none), (Value.pointer none), (Value.string (ByteArray.mk #[]))]) := ⟨Try.t96, #[(Field.mk "_interface" 17 0 false "" "runtime" 0), (Field.mk "concrete" 17 1 false "" "runtime" 8), (Field.mk "asserted" 17 2 false "" "runtime" 16), (Field.mk "missingMethod" 9 3 false "" "runtime" 24)], by kernel_rfl, by kernel_rfl, by kernel_rfl, by kernel_rfl, by kernel_rfl, by kernel_rfl, fun n f h => by
    match n with
    | 0 => injection h with h; subst h; exact ⟨Try.t17, by kernel_rfl, by kernel_rfl, _, Try.underlying17, fun _ => rfl⟩
    | 1 => injection h with h; subst h; exact ⟨Try.t17, by kernel_rfl, by kernel_rfl, _, Try.underlying17, fun _ => rfl⟩
    | 2 => injection h with h; subst h; exact ⟨Try.t17, by kernel_rfl, by kernel_rfl, _, Try.underlying17, fun _ => rfl⟩
    | 3 => injection h with h; subst h; exact ⟨Try.t9, by kernel_rfl, by kernel_rfl, _, Try.underlying9, fun _ => rfl⟩
    | n + 4 => simp at h⟩
theorem tab98 : InfOK Try.prog 98 (.st [(0, 0)] []) := ⟨Try.t98, #[(Field.mk "_" 97 0 false "" "runtime" 0)], by kernel_rfl, by kernel_rfl, by kernel_rfl, by kernel_rfl, by kernel_rfl, by kernel_rfl, fun n f h => by
    match n with
    | 0 => injection h with h; subst h; exact ⟨Try.t97, by kernel_rfl, by kernel_rfl, _, Try.underlying97, fun h => absurd h (by decide)⟩
    | n + 1 => simp at h⟩
theorem tab99 : InfOK Try.prog 99 (.st [(0, 0)] []) := ⟨Try.t99, #[(Field.mk "_" 97 0 false "" "runtime" 0)], by kernel_rfl, by kernel_rfl, by kernel_rfl, by kernel_rfl, by kernel_rfl, by kernel_rfl, fun n f h => by
    match n with
    | 0 => injection h with h; subst h; exact ⟨Try.t97, by kernel_rfl, by kernel_rfl, _, Try.underlying97, fun h => absurd h (by decide)⟩
    | n + 1 => simp at h⟩
theorem tab100 : InfOK Try.prog 100 (.sc (Value.nilFunc)) := ⟨Try.t100, (TypeDesc.func #[] #[3] false), by kernel_rfl, by kernel_rfl, by kernel_rfl, by kernel_rfl, by kernel_rfl, by kernel_rfl, by first | kernel_rfl | trivial⟩
theorem tab101 : InfOK Try.prog 101 (.sc ((Value.int IntKind.u32 0))) := ⟨Try.t101, (TypeDesc.int IntKind.u32), by kernel_rfl, by kernel_rfl, by kernel_rfl, by kernel_rfl, by kernel_rfl, by kernel_rfl, by first | kernel_rfl | trivial⟩
theorem tab102 : InfOK Try.prog 102 (.sc ((Value.int IntKind.u8 0))) := ⟨Try.t102, (TypeDesc.int IntKind.u8), by kernel_rfl, by kernel_rfl, by kernel_rfl, by kernel_rfl, by kernel_rfl, by kernel_rfl, by first | kernel_rfl | trivial⟩
theorem tab103 : InfOK Try.prog 103 (.sc ((Value.int IntKind.u8 0))) := ⟨Try.t103, (TypeDesc.int IntKind.u8), by kernel_rfl, by kernel_rfl, by kernel_rfl, by kernel_rfl, by kernel_rfl, by kernel_rfl, by first | kernel_rfl | trivial⟩
theorem tab104 : InfOK Try.prog 104 (.sc (Value.nilFunc)) := ⟨Try.t104, (TypeDesc.func #[110, 110] #[4] false), by kernel_rfl, by kernel_rfl, by kernel_rfl, by kernel_rfl, by kernel_rfl, by kernel_rfl, by first | kernel_rfl | trivial⟩
theorem tab105 : InfOK Try.prog 105 (.sc ((Value.pointer none))) := ⟨Try.t105, (TypeDesc.pointer 5), by kernel_rfl, by kernel_rfl, by kernel_rfl, by kernel_rfl, by kernel_rfl, by kernel_rfl, by first | kernel_rfl | trivial⟩
theorem tab106 : InfOK Try.prog 106 (.sc ((Value.int IntKind.i32 0))) := ⟨Try.t106, (TypeDesc.int IntKind.i32), by kernel_rfl, by kernel_rfl, by kernel_rfl, by kernel_rfl, by kernel_rfl, by kernel_rfl, by first | kernel_rfl | trivial⟩
theorem tab107 : InfOK Try.prog 107 (.sc ((Value.int IntKind.i32 0))) := ⟨Try.t107, (TypeDesc.int IntKind.i32), by kernel_rfl, by kernel_rfl, by kernel_rfl, by kernel_rfl, by kernel_rfl, by kernel_rfl, by first | kernel_rfl | trivial⟩
theorem tab108 : InfOK Try.prog 108 (.st [(0, 1), (1, 1), (2, 1), (3, 1), (4, 1), (5, 1), (6, 1), (7, 1), (8, 1), (9, 1), (10, 1)] [(Value.int IntKind.u64 0), (Value.int IntKind.u64 0), (Value.int IntKind.u32 0), (Value.int IntKind.u8 0), (Value.int IntKind.u8 0), (Value.int IntKind.u8 0), (Value.int IntKind.u8 0), Value.nilFunc, (Value.pointer none), (Value.int IntKind.i32 0), (Value.int IntKind.i32 0)]) := ⟨Try.t108, #[(Field.mk "Size_" 12 0 false "" "" 0), (Field.mk "PtrBytes" 12 1 false "" "" 8), (Field.mk "Hash" 101 2 false "" "" 16), (Field.mk "TFlag" 102 3 false "" "" 20), (Field.mk "Align_" 5 4 false "" "" 21), (Field.mk "FieldAlign_" 5 5 false "" "" 22), (Field.mk "Kind_" 103 6 false "" "" 23), (Field.mk "Equal" 104 7 false "" "" 24), (Field.mk "GCData" 105 8 false "" "" 32), (Field.mk "Str" 106 9 false "" "" 40), (Field.mk "PtrToThis" 107 10 false "" "" 44)], by kernel_rfl, by kernel_rfl, by kernel_rfl, by kernel_rfl, by kernel_rfl, by kernel_rfl, fun n f h => by
    match n with
    | 0 => injection h with h; subst h; exact ⟨Try.t12, by kernel_rfl, by kernel_rfl, _, Try.underlying12, fun _ => rfl⟩
    | 1 => injection h with h; subst h; exact ⟨Try.t12, by kernel_rfl, by kernel_rfl, _, Try.underlying12, fun _ => rfl⟩
    | 2 => injection h with h; subst h; exact ⟨Try.t101, by kernel_rfl, by kernel_rfl, _, Try.underlying101, fun _ => rfl⟩
    | 3 => injection h with h; subst h; exact ⟨Try.t102, by kernel_rfl, by kernel_rfl, _, Try.underlying102, fun _ => rfl⟩
    | 4 => injection h with h; subst h; exact ⟨Try.t5, by kernel_rfl, by kernel_rfl, _, Try.underlying5, fun _ => rfl⟩
    | 5 => injection h with h; subst h; exact ⟨Try.t5, by kernel_rfl, by kernel_rfl, _, Try.underlying5, fun _ => rfl⟩
    | 6 => injection h with h; subst h; exact ⟨Try.t103, by kernel_rfl, by kernel_rfl, _, Try.underlying103, fun _ => rfl⟩
    | 7 => injection h with h; subst h; exact ⟨Try.t104, by kernel_rfl, by kernel_rfl, _, Try.underlying104, fun _ => rfl⟩
    | 8 => injection h with h; subst h; exact ⟨Try.t105, by kernel_rfl, by kernel_rfl, _, Try.underlying105, fun _ => rfl⟩
    | 9 => injection h with h; subst h; exact ⟨Try.t106, by kernel_rfl, by kernel_rfl, _, Try.underlying106, fun _ => rfl⟩
    | 10 => injection h with h; subst h; exact ⟨Try.t107, by kernel_rfl, by kernel_rfl, _, Try.underlying107, fun _ => rfl⟩
    | n + 11 => simp at h⟩
theorem tab109 : InfOK Try.prog 109 (.st [(0, 1), (1, 1), (2, 1), (3, 1), (4, 1), (5, 1), (6, 1), (7, 1), (8, 1), (9, 1), (10, 1)] [(Value.int IntKind.u64 0), (Value.int IntKind.u64 0), (Value.int IntKind.u32 0), (Value.int IntKind.u8 0), (Value.int IntKind.u8 0), (Value.int IntKind.u8 0), (Value.int IntKind.u8 0), Value.nilFunc, (Value.pointer none), (Value.int IntKind.i32 0), (Value.int IntKind.i32 0)]) := ⟨Try.t109, #[(Field.mk "Size_" 12 0 false "" "" 0), (Field.mk "PtrBytes" 12 1 false "" "" 8), (Field.mk "Hash" 101 2 false "" "" 16), (Field.mk "TFlag" 102 3 false "" "" 20), (Field.mk "Align_" 5 4 false "" "" 21), (Field.mk "FieldAlign_" 5 5 false "" "" 22), (Field.mk "Kind_" 103 6 false "" "" 23), (Field.mk "Equal" 104 7 false "" "" 24), (Field.mk "GCData" 105 8 false "" "" 32), (Field.mk "Str" 106 9 false "" "" 40), (Field.mk "PtrToThis" 107 10 false "" "" 44)], by kernel_rfl, by kernel_rfl, by kernel_rfl, by kernel_rfl, by kernel_rfl, by kernel_rfl, fun n f h => by
    match n with
    | 0 => injection h with h; subst h; exact ⟨Try.t12, by kernel_rfl, by kernel_rfl, _, Try.underlying12, fun _ => rfl⟩
    | 1 => injection h with h; subst h; exact ⟨Try.t12, by kernel_rfl, by kernel_rfl, _, Try.underlying12, fun _ => rfl⟩
    | 2 => injection h with h; subst h; exact ⟨Try.t101, by kernel_rfl, by kernel_rfl, _, Try.underlying101, fun _ => rfl⟩
    | 3 => injection h with h; subst h; exact ⟨Try.t102, by kernel_rfl, by kernel_rfl, _, Try.underlying102, fun _ => rfl⟩
    | 4 => injection h with h; subst h; exact ⟨Try.t5, by kernel_rfl, by kernel_rfl, _, Try.underlying5, fun _ => rfl⟩
    | 5 => injection h with h; subst h; exact ⟨Try.t5, by kernel_rfl, by kernel_rfl, _, Try.underlying5, fun _ => rfl⟩
    | 6 => injection h with h; subst h; exact ⟨Try.t103, by kernel_rfl, by kernel_rfl, _, Try.underlying103, fun _ => rfl⟩
    | 7 => injection h with h; subst h; exact ⟨Try.t104, by kernel_rfl, by kernel_rfl, _, Try.underlying104, fun _ => rfl⟩
    | 8 => injection h with h; subst h; exact ⟨Try.t105, by kernel_rfl, by kernel_rfl, _, Try.underlying105, fun _ => rfl⟩
    | 9 => injection h with h; subst h; exact ⟨Try.t106, by kernel_rfl, by kernel_rfl, _, Try.underlying106, fun _ => rfl⟩
    | 10 => injection h with h; subst h; exact ⟨Try.t107, by kernel_rfl, by kernel_rfl, _, Try.underlying107, fun _ => rfl⟩
    | n + 11 => simp at h⟩
theorem tab110 : InfOK Try.prog 110 (.sc ((Value.pointer none))) := ⟨Try.t110, TypeDesc.unsafePointer, by kernel_rfl, by kernel_rfl, by kernel_rfl, by kernel_rfl, by kernel_rfl, by kernel_rfl, by first | kernel_rfl | trivial⟩
theorem tab1000027 : InfOK Try.prog 1000027 (.eq 27 [.int, .int, .int]) := ⟨by kernel_rfl, by kernel_rfl, by kernel_rfl, by
    rw [show (Try.prog.fieldsOf 27).toList = [(Field.mk "At" 3 0 false "" "" 0), (Field.mk "Step" 3 1 false "" "" 8), (Field.mk "Ratio" 3 2 false "" "" 16)] by kernel_rfl]
    exact ⟨by decide, rfl, .inl ⟨rfl, Try.underlying3⟩, by decide, rfl, .inl ⟨rfl, Try.underlying3⟩, by decide, rfl, .inl ⟨rfl, Try.underlying3⟩, trivial⟩⟩
theorem tab1000028 : InfOK Try.prog 1000028 (.eq 28 [.int, .int, .int]) := ⟨by kernel_rfl, by kernel_rfl, by kernel_rfl, by
    rw [show (Try.prog.fieldsOf 28).toList = [(Field.mk "At" 3 0 false "" "" 0), (Field.mk "Step" 3 1 false "" "" 8), (Field.mk "Ratio" 3 2 false "" "" 16)] by kernel_rfl]
    exact ⟨by decide, rfl, .inl ⟨rfl, Try.underlying3⟩, by decide, rfl, .inl ⟨rfl, Try.underlying3⟩, by decide, rfl, .inl ⟨rfl, Try.underlying3⟩, trivial⟩⟩
theorem tab1000070 : InfOK Try.prog 1000070 (.eq 70 [.int, .int, .bool]) := ⟨by kernel_rfl, by kernel_rfl, by kernel_rfl, by
    rw [show (Try.prog.fieldsOf 70).toList = [(Field.mk "Key" 3 0 false "" "" 0), (Field.mk "Value" 3 1 false "" "" 8), (Field.mk "Dirty" 4 2 false "" "" 16)] by kernel_rfl]
    exact ⟨by decide, rfl, .inl ⟨rfl, Try.underlying3⟩, by decide, rfl, .inl ⟨rfl, Try.underlying3⟩, by decide, rfl, .inr ⟨rfl, Try.underlying4⟩, trivial⟩⟩
theorem tab1000071 : InfOK Try.prog 1000071 (.eq 71 [.int, .int, .bool]) := ⟨by kernel_rfl, by kernel_rfl, by kernel_rfl, by
    rw [show (Try.prog.fieldsOf 71).toList = [(Field.mk "Key" 3 0 false "" "" 0), (Field.mk "Value" 3 1 false "" "" 8), (Field.mk "Dirty" 4 2 false "" "" 16)] by kernel_rfl]
    exact ⟨by decide, rfl, .inl ⟨rfl, Try.underlying3⟩, by decide, rfl, .inl ⟨rfl, Try.underlying3⟩, by decide, rfl, .inr ⟨rfl, Try.underlying4⟩, trivial⟩⟩
theorem tabOK : TabOK Try.prog TT := tabOK_of ⟨tab1, tab2, tab3, tab4, tab5, tab6, tab7, tab8, tab9, tab10, tab11, tab12, tab13, tab14, tab15, tab16, tab17, tab18, tab19, tab20, tab21, tab22, tab24, tab25, tab26, tab27, tab28, tab29, tab30, tab32, tab34, tab35, tab37, tab38, tab39, tab40, tab42, tab43, tab44, tab45, tab47, tab49, tab50, tab51, tab53, tab55, tab56, tab57, tab58, tab59, tab60, tab61, tab62, tab63, tab64, tab65, tab66, tab67, tab68, tab69, tab70, tab71, tab72, tab73, tab74, tab75, tab76, tab77, tab78, tab79, tab80, tab81, tab82, tab84, tab85, tab86, tab88, tab89, tab90, tab91, tab92, tab93, tab94, tab95, tab96, tab98, tab99, tab100, tab101, tab102, tab103, tab104, tab105, tab106, tab107, tab108, tab109, tab110, tab1000027, tab1000028, tab1000070, tab1000071, trivial⟩
theorem mixed : Try.prog.follows .mixedOrders = true := by kernel_rfl
end Go.Ev
