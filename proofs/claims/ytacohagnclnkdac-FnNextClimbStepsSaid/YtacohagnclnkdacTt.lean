/- The types of the program, as the evaluator wants them. No statement is proved here. -/
import Derived.Test.YtacohagnclnkdacEvT
import Derived.Test.YtacohagnclnkdacChecked
namespace Go.Ev
set_option linter.unusedVariables false
set_option linter.unusedSimpArgs false
open Go Go.Proofs
def TT : Tab := [(1, .sc (Value.nilFunc)),
  (2, .sc ((Value.int IntKind.i64 0))),
  (3, .sc ((Value.int IntKind.i64 0))),
  (4, .sc ((Value.bool false))),
  (5, .sc ((Value.int IntKind.u8 0))),
  (6, .sc ((Value.int IntKind.u8 0))),
  (7, .st [(0, 1), (1, 1), (2, 1), (3, 1)] [(Value.int IntKind.i64 0), (Value.int IntKind.i64 0), (Value.bool false), (Value.int IntKind.u8 0)]),
  (8, .st [(0, 1), (1, 1), (2, 1), (3, 1)] [(Value.int IntKind.i64 0), (Value.int IntKind.i64 0), (Value.bool false), (Value.int IntKind.u8 0)]),
  (9, .sc ((Value.string (ByteArray.mk #[])))),
  (10, .sc ((Value.string (ByteArray.mk #[])))),
  (11, .sc ((Value.string (ByteArray.mk #[])))),
  (12, .sc ((Value.int IntKind.u64 0))),
  (13, .st [(0, 1), (1, 1)] [(Value.string (ByteArray.mk #[])), (Value.int IntKind.u64 0)]),
  (14, .st [(0, 1), (1, 1)] [(Value.string (ByteArray.mk #[])), (Value.int IntKind.u64 0)]),
  (15, .sc ((Value.pointer none))),
  (16, .sc ((Value.pointer none))),
  (17, .sc ((Value.pointer none))),
  (18, .st [(0, 1)] [(Value.pointer none)]),
  (19, .st [(0, 1)] [(Value.pointer none)]),
  (20, .sc (Value.nilIface)),
  (21, .sc ((Value.int IntKind.i32 0))),
  (22, .sl 5 .u8),
  (23, .sl 3 .int),
  (24, .sl 74 .iib),
  (25, .st [(0, 1), (1, 1), (2, 1)] [(Value.slice none 0 0), (Value.slice none 0 0), (Value.int IntKind.i64 0)]),
  (26, .st [(0, 1), (1, 1), (2, 1)] [(Value.slice none 0 0), (Value.slice none 0 0), (Value.int IntKind.i64 0)]),
  (28, .sc (Value.nilFunc)),
  (30, .sc (Value.nilFunc)),
  (31, .sc (Value.nilFunc)),
  (33, .sc (Value.nilFunc)),
  (34, .sc (Value.nilFunc)),
  (35, .sc (Value.nilFunc)),
  (36, .sc (Value.nilFunc)),
  (37, .st [(0, 1), (1, 1), (2, 1)] [(Value.int IntKind.i64 0), (Value.int IntKind.i64 0), (Value.int IntKind.i64 0)]),
  (38, .st [(0, 1), (1, 1), (2, 1)] [(Value.int IntKind.i64 0), (Value.int IntKind.i64 0), (Value.int IntKind.i64 0)]),
  (40, .sc (Value.nilFunc)),
  (42, .sc (Value.nilFunc)),
  (44, .sc (Value.nilFunc)),
  (45, .sc (Value.nilFunc)),
  (46, .st [(0, 1), (1, 1), (2, 1), (3, 1)] [(Value.int IntKind.i64 0), (Value.int IntKind.i64 0), (Value.slice none 0 0), (Value.slice none 0 0)]),
  (47, .st [(0, 1), (1, 1), (2, 1), (3, 1)] [(Value.int IntKind.i64 0), (Value.int IntKind.i64 0), (Value.slice none 0 0), (Value.slice none 0 0)]),
  (49, .sc (Value.nilFunc)),
  (50, .sl 107 .iib),
  (51, .st [(0, 1), (1, 1), (2, 1)] [(Value.slice none 0 0), (Value.slice none 0 0), (Value.int IntKind.i64 0)]),
  (52, .st [(0, 1), (1, 1), (2, 1)] [(Value.slice none 0 0), (Value.slice none 0 0), (Value.int IntKind.i64 0)]),
  (53, .sc (Value.nilFunc)),
  (54, .sc (Value.nilFunc)),
  (55, .sc (Value.nilFunc)),
  (56, .sc (Value.nilFunc)),
  (57, .sc (Value.nilFunc)),
  (58, .sc (Value.nilFunc)),
  (59, .sc (Value.nilFunc)),
  (60, .sc (Value.nilFunc)),
  (61, .sc (Value.nilFunc)),
  (63, .sc (Value.nilFunc)),
  (64, .sc (Value.nilFunc)),
  (65, .sc (Value.nilFunc)),
  (66, .sc ((Value.pointer none))),
  (67, .sc (Value.nilFunc)),
  (68, .sc (Value.nilFunc)),
  (69, .sc (Value.nilFunc)),
  (70, .sc (Value.nilFunc)),
  (71, .sc (Value.nilFunc)),
  (72, .sc (Value.nilFunc)),
  (73, .st [(0, 1), (1, 1), (2, 1)] [(Value.int IntKind.i64 0), (Value.int IntKind.i64 0), (Value.bool false)]),
  (74, .st [(0, 1), (1, 1), (2, 1)] [(Value.int IntKind.i64 0), (Value.int IntKind.i64 0), (Value.bool false)]),
  (75, .sc (Value.nilFunc)),
  (76, .sc (Value.nilFunc)),
  (77, .sc (Value.nilFunc)),
  (78, .sc (Value.nilFunc)),
  (79, .sc (Value.nilFunc)),
  (80, .sc (Value.nilFunc)),
  (81, .sc (Value.nilFunc)),
  (82, .sc (Value.nilFunc)),
  (83, .sc (Value.nilFunc)),
  (84, .sc (Value.nilFunc)),
  (85, .sc (Value.nilFunc)),
  (86, .sc (Value.nilFunc)),
  (87, .sc (Value.nilFunc)),
  (88, .sc (Value.nilFunc)),
  (89, .sc (Value.nilFunc)),
  (90, .sc (Value.nilFunc)),
  (91, .sc (Value.nilFunc)),
  (92, .sc (Value.nilFunc)),
  (93, .sc (Value.nilFunc)),
  (94, .st [(0, 1), (1, 1)] [(Value.slice none 0 0), (Value.int IntKind.i64 0)]),
  (95, .st [(0, 1), (1, 1)] [(Value.slice none 0 0), (Value.int IntKind.i64 0)]),
  (96, .sc (Value.nilFunc)),
  (97, .sc (Value.nilFunc)),
  (98, .sc (Value.nilFunc)),
  (99, .sc (Value.nilFunc)),
  (101, .sc (Value.nilFunc)),
  (102, .sc (Value.nilFunc)),
  (104, .sc (Value.nilFunc)),
  (105, .sc (Value.nilFunc)),
  (106, .sc (Value.nilFunc)),
  (107, .st [(0, 1), (1, 1), (2, 1)] [(Value.int IntKind.i64 0), (Value.int IntKind.i64 0), (Value.bool false)]),
  (108, .sc (Value.nilFunc)),
  (109, .sc (Value.nilFunc)),
  (110, .st [(0, 1), (1, 1), (2, 1), (3, 1)] [(Value.pointer none), (Value.pointer none), (Value.pointer none), (Value.string (ByteArray.mk #[]))]),
  (111, .st [(0, 1), (1, 1), (2, 1), (3, 1)] [(Value.pointer none), (Value.pointer none), (Value.pointer none), (Value.string (ByteArray.mk #[]))]),
  (113, .st [(0, 0)] []),
  (114, .st [(0, 0)] []),
  (115, .sc (Value.nilFunc)),
  (116, .sc ((Value.int IntKind.u32 0))),
  (117, .sc ((Value.int IntKind.u8 0))),
  (118, .sc ((Value.int IntKind.u8 0))),
  (119, .sc (Value.nilFunc)),
  (120, .sc ((Value.pointer none))),
  (121, .sc ((Value.int IntKind.i32 0))),
  (122, .sc ((Value.int IntKind.i32 0))),
  (123, .st [(0, 1), (1, 1), (2, 1), (3, 1), (4, 1), (5, 1), (6, 1), (7, 1), (8, 1), (9, 1), (10, 1)] [(Value.int IntKind.u64 0), (Value.int IntKind.u64 0), (Value.int IntKind.u32 0), (Value.int IntKind.u8 0), (Value.int IntKind.u8 0), (Value.int IntKind.u8 0), (Value.int IntKind.u8 0), Value.nilFunc, (Value.pointer none), (Value.int IntKind.i32 0), (Value.int IntKind.i32 0)]),
  (124, .st [(0, 1), (1, 1), (2, 1), (3, 1), (4, 1), (5, 1), (6, 1), (7, 1), (8, 1), (9, 1), (10, 1)] [(Value.int IntKind.u64 0), (Value.int IntKind.u64 0), (Value.int IntKind.u32 0), (Value.int IntKind.u8 0), (Value.int IntKind.u8 0), (Value.int IntKind.u8 0), (Value.int IntKind.u8 0), Value.nilFunc, (Value.pointer none), (Value.int IntKind.i32 0), (Value.int IntKind.i32 0)]),
  (125, .sc ((Value.pointer none))),
  (1000037, .eq 37 [.int, .int, .int]),
  (1000038, .eq 38 [.int, .int, .int]),
  (1000073, .eq 73 [.int, .int, .bool]),
  (1000074, .eq 74 [.int, .int, .bool]),
  (1000107, .eq 107 [.int, .int, .bool])]
theorem tab1 : InfOK Try.prog 1 (.sc (Value.nilFunc)) := ⟨Try.t1, (TypeDesc.func #[] #[] false), by kernel_rfl, by kernel_rfl, by kernel_rfl, by kernel_rfl, by kernel_rfl, by kernel_rfl, by first | kernel_rfl | trivial⟩
theorem tab2 : InfOK Try.prog 2 (.sc ((Value.int IntKind.i64 0))) := ⟨Try.t2, (TypeDesc.int IntKind.i64), by kernel_rfl, by kernel_rfl, by kernel_rfl, by kernel_rfl, by kernel_rfl, by kernel_rfl, by first | kernel_rfl | trivial⟩
theorem tab3 : InfOK Try.prog 3 (.sc ((Value.int IntKind.i64 0))) := ⟨Try.t3, (TypeDesc.int IntKind.i64), by kernel_rfl, by kernel_rfl, by kernel_rfl, by kernel_rfl, by kernel_rfl, by kernel_rfl, by first | kernel_rfl | trivial⟩
theorem tab4 : InfOK Try.prog 4 (.sc ((Value.bool false))) := ⟨Try.t4, TypeDesc.bool, by kernel_rfl, by kernel_rfl, by kernel_rfl, by kernel_rfl, by kernel_rfl, by kernel_rfl, by first | kernel_rfl | trivial⟩
theorem tab5 : InfOK Try.prog 5 (.sc ((Value.int IntKind.u8 0))) := ⟨Try.t5, (TypeDesc.int IntKind.u8), by kernel_rfl, by kernel_rfl, by kernel_rfl, by kernel_rfl, by kernel_rfl, by kernel_rfl, by first | kernel_rfl | trivial⟩
theorem tab6 : InfOK Try.prog 6 (.sc ((Value.int IntKind.u8 0))) := ⟨Try.t6, (TypeDesc.int IntKind.u8), by kernel_rfl, by kernel_rfl, by kernel_rfl, by kernel_rfl, by kernel_rfl, by kernel_rfl, by first | kernel_rfl | trivial⟩
theorem tab7 : InfOK Try.prog 7 (.st [(0, 1), (1, 1), (2, 1), (3, 1)] [(Value.int IntKind.i64 0), (Value.int IntKind.i64 0), (Value.bool false), (Value.int IntKind.u8 0)]) := ⟨Try.t7, #[(Field.mk "x" 2 0 false "" "runtime" 0), (Field.mk "y" 3 1 false "" "runtime" 8), (Field.mk "signed" 4 2 false "" "runtime" 16), (Field.mk "code" 6 3 false "" "runtime" 17)], by kernel_rfl, by kernel_rfl, by kernel_rfl, by kernel_rfl, by kernel_rfl, by kernel_rfl, fun n f h => by
    match n with
    | 0 => injection h with h; subst h; exact ⟨Try.t2, by kernel_rfl, by kernel_rfl, _, Try.underlying2, fun _ => rfl⟩
    | 1 => injection h with h; subst h; exact ⟨Try.t3, by kernel_rfl, by kernel_rfl, _, Try.underlying3, fun _ => rfl⟩
    | 2 => injection h with h; subst h; exact ⟨Try.t4, by kernel_rfl, by kernel_rfl, _, Try.underlying4, fun _ => rfl⟩
    | 3 => injection h with h; subst h; exact ⟨Try.t6, by kernel_rfl, by kernel_rfl, _, Try.underlying6, fun _ => rfl⟩
    | n + 4 => simp at h⟩
theorem tab8 : InfOK Try.prog 8 (.st [(0, 1), (1, 1), (2, 1), (3, 1)] [(Value.int IntKind.i64 0), (Value.int IntKind.i64 0), (Value.bool false), (Value.int IntKind.u8 0)]) := ⟨Try.t8, #[(Field.mk "x" 2 0 false "" "runtime" 0), (Field.mk "y" 3 1 false "" "runtime" 8), (Field.mk "signed" 4 2 false "" "runtime" 16), (Field.mk "code" 6 3 false "" "runtime" 17)], by kernel_rfl, by kernel_rfl, by kernel_rfl, by kernel_rfl, by kernel_rfl, by kernel_rfl, fun n f h => by
    match n with
    | 0 => injection h with h; subst h; exact ⟨Try.t2, by kernel_rfl, by kernel_rfl, _, Try.underlying2, fun _ => rfl⟩
    | 1 => injection h with h; subst h; exact ⟨Try.t3, by kernel_rfl, by kernel_rfl, _, Try.underlying3, fun _ => rfl⟩
    | 2 => injection h with h; subst h; exact ⟨Try.t4, by kernel_rfl, by kernel_rfl, _, Try.underlying4, fun _ => rfl⟩
    | 3 => injection h with h; subst h; exact ⟨Try.t6, by kernel_rfl, by kernel_rfl, _, Try.underlying6, fun _ => rfl⟩
    | n + 4 => simp at h⟩
theorem tab9 : InfOK Try.prog 9 (.sc ((Value.string (ByteArray.mk #[])))) := ⟨Try.t9, TypeDesc.string, by kernel_rfl, by kernel_rfl, by kernel_rfl, by kernel_rfl, by kernel_rfl, by kernel_rfl, by first | kernel_rfl | trivial⟩
theorem tab10 : InfOK Try.prog 10 (.sc ((Value.string (ByteArray.mk #[])))) := ⟨Try.t10, TypeDesc.string, by kernel_rfl, by kernel_rfl, by kernel_rfl, by kernel_rfl, by kernel_rfl, by kernel_rfl, by first | kernel_rfl | trivial⟩
theorem tab11 : InfOK Try.prog 11 (.sc ((Value.string (ByteArray.mk #[])))) := ⟨Try.t11, TypeDesc.string, by kernel_rfl, by kernel_rfl, by kernel_rfl, by kernel_rfl, by kernel_rfl, by kernel_rfl, by first | kernel_rfl | trivial⟩
theorem tab12 : InfOK Try.prog 12 (.sc ((Value.int IntKind.u64 0))) := ⟨Try.t12, (TypeDesc.int IntKind.u64), by kernel_rfl, by kernel_rfl, by kernel_rfl, by kernel_rfl, by kernel_rfl, by kernel_rfl, by first | kernel_rfl | trivial⟩
theorem tab13 : InfOK Try.prog 13 (.st [(0, 1), (1, 1)] [(Value.string (ByteArray.mk #[])), (Value.int IntKind.u64 0)]) := ⟨Try.t13, #[(Field.mk "msg" 9 0 false "" "runtime" 0), (Field.mk "addr" 12 1 false "" "runtime" 16)], by kernel_rfl, by kernel_rfl, by kernel_rfl, by kernel_rfl, by kernel_rfl, by kernel_rfl, fun n f h => by
    match n with
    | 0 => injection h with h; subst h; exact ⟨Try.t9, by kernel_rfl, by kernel_rfl, _, Try.underlying9, fun _ => rfl⟩
    | 1 => injection h with h; subst h; exact ⟨Try.t12, by kernel_rfl, by kernel_rfl, _, Try.underlying12, fun _ => rfl⟩
    | n + 2 => simp at h⟩
theorem tab14 : InfOK Try.prog 14 (.st [(0, 1), (1, 1)] [(Value.string (ByteArray.mk #[])), (Value.int IntKind.u64 0)]) := ⟨Try.t14, #[(Field.mk "msg" 9 0 false "" "runtime" 0), (Field.mk "addr" 12 1 false "" "runtime" 16)], by kernel_rfl, by kernel_rfl, by kernel_rfl, by kernel_rfl, by kernel_rfl, by kernel_rfl, fun n f h => by
    match n with
    | 0 => injection h with h; subst h; exact ⟨Try.t9, by kernel_rfl, by kernel_rfl, _, Try.underlying9, fun _ => rfl⟩
    | 1 => injection h with h; subst h; exact ⟨Try.t12, by kernel_rfl, by kernel_rfl, _, Try.underlying12, fun _ => rfl⟩
    | n + 2 => simp at h⟩
theorem tab15 : InfOK Try.prog 15 (.sc ((Value.pointer none))) := ⟨Try.t15, (TypeDesc.pointer 111), by kernel_rfl, by kernel_rfl, by kernel_rfl, by kernel_rfl, by kernel_rfl, by kernel_rfl, by first | kernel_rfl | trivial⟩
theorem tab16 : InfOK Try.prog 16 (.sc ((Value.pointer none))) := ⟨Try.t16, (TypeDesc.pointer 114), by kernel_rfl, by kernel_rfl, by kernel_rfl, by kernel_rfl, by kernel_rfl, by kernel_rfl, by first | kernel_rfl | trivial⟩
theorem tab17 : InfOK Try.prog 17 (.sc ((Value.pointer none))) := ⟨Try.t17, (TypeDesc.pointer 124), by kernel_rfl, by kernel_rfl, by kernel_rfl, by kernel_rfl, by kernel_rfl, by kernel_rfl, by first | kernel_rfl | trivial⟩
theorem tab18 : InfOK Try.prog 18 (.st [(0, 1)] [(Value.pointer none)]) := ⟨Try.t18, #[(Field.mk "typ" 17 0 false "" "internal/runtime/maps" 0)], by kernel_rfl, by kernel_rfl, by kernel_rfl, by kernel_rfl, by kernel_rfl, by kernel_rfl, fun n f h => by
    match n with
    | 0 => injection h with h; subst h; exact ⟨Try.t17, by kernel_rfl, by kernel_rfl, _, Try.underlying17, fun _ => rfl⟩
    | n + 1 => simp at h⟩
theorem tab19 : InfOK Try.prog 19 (.st [(0, 1)] [(Value.pointer none)]) := ⟨Try.t19, #[(Field.mk "typ" 17 0 false "" "internal/runtime/maps" 0)], by kernel_rfl, by kernel_rfl, by kernel_rfl, by kernel_rfl, by kernel_rfl, by kernel_rfl, fun n f h => by
    match n with
    | 0 => injection h with h; subst h; exact ⟨Try.t17, by kernel_rfl, by kernel_rfl, _, Try.underlying17, fun _ => rfl⟩
    | n + 1 => simp at h⟩
theorem tab20 : InfOK Try.prog 20 (.sc (Value.nilIface)) := ⟨Try.t20, (TypeDesc.interface #[]), by kernel_rfl, by kernel_rfl, by kernel_rfl, by kernel_rfl, by kernel_rfl, by kernel_rfl, by first | kernel_rfl | trivial⟩
theorem tab21 : InfOK Try.prog 21 (.sc ((Value.int IntKind.i32 0))) := ⟨Try.t21, (TypeDesc.int IntKind.i32), by kernel_rfl, by kernel_rfl, by kernel_rfl, by kernel_rfl, by kernel_rfl, by kernel_rfl, by first | kernel_rfl | trivial⟩
theorem tab22 : InfOK Try.prog 22 (.sl 5 .u8) := ⟨Try.t5, by kernel_rfl, by kernel_rfl, by kernel_rfl, ⟨(Value.int IntKind.u8 0), by kernel_rfl, by kernel_rfl⟩, by decide, by decide, Try.t22, by kernel_rfl, by kernel_rfl, by kernel_rfl⟩
theorem tab23 : InfOK Try.prog 23 (.sl 3 .int) := ⟨Try.t3, by kernel_rfl, by kernel_rfl, by kernel_rfl, ⟨(Value.int IntKind.i64 0), by kernel_rfl, by kernel_rfl⟩, by decide, by decide, Try.t23, by kernel_rfl, by kernel_rfl, by kernel_rfl⟩
theorem tab24 : InfOK Try.prog 24 (.sl 74 .iib) := ⟨Try.t74, by kernel_rfl, by kernel_rfl, by kernel_rfl, ⟨(Value.agg #[(Value.int IntKind.i64 0), (Value.int IntKind.i64 0), (Value.bool false)]), by kernel_rfl, by kernel_rfl⟩, by decide, by decide, Try.t24, by kernel_rfl, by kernel_rfl, by kernel_rfl⟩
theorem tab25 : InfOK Try.prog 25 (.st [(0, 1), (1, 1), (2, 1)] [(Value.slice none 0 0), (Value.slice none 0 0), (Value.int IntKind.i64 0)]) := ⟨Try.t25, #[(Field.mk "Store" 23 0 false "" "" 0), (Field.mk "Lines" 24 1 false "" "" 24), (Field.mk "Room" 3 2 false "" "" 48)], by kernel_rfl, by kernel_rfl, by kernel_rfl, by kernel_rfl, by kernel_rfl, by kernel_rfl, fun n f h => by
    match n with
    | 0 => injection h with h; subst h; exact ⟨Try.t23, by kernel_rfl, by kernel_rfl, _, Try.underlying23, fun _ => rfl⟩
    | 1 => injection h with h; subst h; exact ⟨Try.t24, by kernel_rfl, by kernel_rfl, _, Try.underlying24, fun _ => rfl⟩
    | 2 => injection h with h; subst h; exact ⟨Try.t3, by kernel_rfl, by kernel_rfl, _, Try.underlying3, fun _ => rfl⟩
    | n + 3 => simp at h⟩
theorem tab26 : InfOK Try.prog 26 (.st [(0, 1), (1, 1), (2, 1)] [(Value.slice none 0 0), (Value.slice none 0 0), (Value.int IntKind.i64 0)]) := ⟨Try.t26, #[(Field.mk "Store" 23 0 false "" "" 0), (Field.mk "Lines" 24 1 false "" "" 24), (Field.mk "Room" 3 2 false "" "" 48)], by kernel_rfl, by kernel_rfl, by kernel_rfl, by kernel_rfl, by kernel_rfl, by kernel_rfl, fun n f h => by
    match n with
    | 0 => injection h with h; subst h; exact ⟨Try.t23, by kernel_rfl, by kernel_rfl, _, Try.underlying23, fun _ => rfl⟩
    | 1 => injection h with h; subst h; exact ⟨Try.t24, by kernel_rfl, by kernel_rfl, _, Try.underlying24, fun _ => rfl⟩
    | 2 => injection h with h; subst h; exact ⟨Try.t3, by kernel_rfl, by kernel_rfl, _, Try.underlying3, fun _ => rfl⟩
    | n + 3 => simp at h⟩
theorem tab28 : InfOK Try.prog 28 (.sc (Value.nilFunc)) := ⟨Try.t28, (TypeDesc.func #[22] #[26, 3, 3] false), by kernel_rfl, by kernel_rfl, by kernel_rfl, by kernel_rfl, by kernel_rfl, by kernel_rfl, by first | kernel_rfl | trivial⟩
theorem tab30 : InfOK Try.prog 30 (.sc (Value.nilFunc)) := ⟨Try.t30, (TypeDesc.func #[26, 3, 3] #[26, 4] false), by kernel_rfl, by kernel_rfl, by kernel_rfl, by kernel_rfl, by kernel_rfl, by kernel_rfl, by first | kernel_rfl | trivial⟩
theorem tab31 : InfOK Try.prog 31 (.sc (Value.nilFunc)) := ⟨Try.t31, (TypeDesc.func #[26, 26] #[4] false), by kernel_rfl, by kernel_rfl, by kernel_rfl, by kernel_rfl, by kernel_rfl, by kernel_rfl, by first | kernel_rfl | trivial⟩
theorem tab33 : InfOK Try.prog 33 (.sc (Value.nilFunc)) := ⟨Try.t33, (TypeDesc.func #[26, 3] #[26, 3, 4] false), by kernel_rfl, by kernel_rfl, by kernel_rfl, by kernel_rfl, by kernel_rfl, by kernel_rfl, by first | kernel_rfl | trivial⟩
theorem tab34 : InfOK Try.prog 34 (.sc (Value.nilFunc)) := ⟨Try.t34, (TypeDesc.func #[26] #[23] false), by kernel_rfl, by kernel_rfl, by kernel_rfl, by kernel_rfl, by kernel_rfl, by kernel_rfl, by first | kernel_rfl | trivial⟩
theorem tab35 : InfOK Try.prog 35 (.sc (Value.nilFunc)) := ⟨Try.t35, (TypeDesc.func #[23, 3] #[4] false), by kernel_rfl, by kernel_rfl, by kernel_rfl, by kernel_rfl, by kernel_rfl, by kernel_rfl, by first | kernel_rfl | trivial⟩
theorem tab36 : InfOK Try.prog 36 (.sc (Value.nilFunc)) := ⟨Try.t36, (TypeDesc.func #[22] #[4] false), by kernel_rfl, by kernel_rfl, by kernel_rfl, by kernel_rfl, by kernel_rfl, by kernel_rfl, by first | kernel_rfl | trivial⟩
theorem tab37 : InfOK Try.prog 37 (.st [(0, 1), (1, 1), (2, 1)] [(Value.int IntKind.i64 0), (Value.int IntKind.i64 0), (Value.int IntKind.i64 0)]) := ⟨Try.t37, #[(Field.mk "At" 3 0 false "" "" 0), (Field.mk "Step" 3 1 false "" "" 8), (Field.mk "Ratio" 3 2 false "" "" 16)], by kernel_rfl, by kernel_rfl, by kernel_rfl, by kernel_rfl, by kernel_rfl, by kernel_rfl, fun n f h => by
    match n with
    | 0 => injection h with h; subst h; exact ⟨Try.t3, by kernel_rfl, by kernel_rfl, _, Try.underlying3, fun _ => rfl⟩
    | 1 => injection h with h; subst h; exact ⟨Try.t3, by kernel_rfl, by kernel_rfl, _, Try.underlying3, fun _ => rfl⟩
    | 2 => injection h with h; subst h; exact ⟨Try.t3, by kernel_rfl, by kernel_rfl, _, Try.underlying3, fun _ => rfl⟩
    | n + 3 => simp at h⟩
theorem tab38 : InfOK Try.prog 38 (.st [(0, 1), (1, 1), (2, 1)] [(Value.int IntKind.i64 0), (Value.int IntKind.i64 0), (Value.int IntKind.i64 0)]) := ⟨Try.t38, #[(Field.mk "At" 3 0 false "" "" 0), (Field.mk "Step" 3 1 false "" "" 8), (Field.mk "Ratio" 3 2 false "" "" 16)], by kernel_rfl, by kernel_rfl, by kernel_rfl, by kernel_rfl, by kernel_rfl, by kernel_rfl, fun n f h => by
    match n with
    | 0 => injection h with h; subst h; exact ⟨Try.t3, by kernel_rfl, by kernel_rfl, _, Try.underlying3, fun _ => rfl⟩
    | 1 => injection h with h; subst h; exact ⟨Try.t3, by kernel_rfl, by kernel_rfl, _, Try.underlying3, fun _ => rfl⟩
    | 2 => injection h with h; subst h; exact ⟨Try.t3, by kernel_rfl, by kernel_rfl, _, Try.underlying3, fun _ => rfl⟩
    | n + 3 => simp at h⟩
theorem tab40 : InfOK Try.prog 40 (.sc (Value.nilFunc)) := ⟨Try.t40, (TypeDesc.func #[22] #[38, 3] false), by kernel_rfl, by kernel_rfl, by kernel_rfl, by kernel_rfl, by kernel_rfl, by kernel_rfl, by first | kernel_rfl | trivial⟩
theorem tab42 : InfOK Try.prog 42 (.sc (Value.nilFunc)) := ⟨Try.t42, (TypeDesc.func #[38, 3] #[38, 4] false), by kernel_rfl, by kernel_rfl, by kernel_rfl, by kernel_rfl, by kernel_rfl, by kernel_rfl, by first | kernel_rfl | trivial⟩
theorem tab44 : InfOK Try.prog 44 (.sc (Value.nilFunc)) := ⟨Try.t44, (TypeDesc.func #[22] #[23, 3] false), by kernel_rfl, by kernel_rfl, by kernel_rfl, by kernel_rfl, by kernel_rfl, by kernel_rfl, by first | kernel_rfl | trivial⟩
theorem tab45 : InfOK Try.prog 45 (.sc (Value.nilFunc)) := ⟨Try.t45, (TypeDesc.func #[23, 3] #[3] false), by kernel_rfl, by kernel_rfl, by kernel_rfl, by kernel_rfl, by kernel_rfl, by kernel_rfl, by first | kernel_rfl | trivial⟩
theorem tab46 : InfOK Try.prog 46 (.st [(0, 1), (1, 1), (2, 1), (3, 1)] [(Value.int IntKind.i64 0), (Value.int IntKind.i64 0), (Value.slice none 0 0), (Value.slice none 0 0)]) := ⟨Try.t46, #[(Field.mk "Trial" 3 0 false "" "" 0), (Field.mk "Safe" 3 1 false "" "" 8), (Field.mk "New" 23 2 false "" "" 16), (Field.mk "Old" 23 3 false "" "" 40)], by kernel_rfl, by kernel_rfl, by kernel_rfl, by kernel_rfl, by kernel_rfl, by kernel_rfl, fun n f h => by
    match n with
    | 0 => injection h with h; subst h; exact ⟨Try.t3, by kernel_rfl, by kernel_rfl, _, Try.underlying3, fun _ => rfl⟩
    | 1 => injection h with h; subst h; exact ⟨Try.t3, by kernel_rfl, by kernel_rfl, _, Try.underlying3, fun _ => rfl⟩
    | 2 => injection h with h; subst h; exact ⟨Try.t23, by kernel_rfl, by kernel_rfl, _, Try.underlying23, fun _ => rfl⟩
    | 3 => injection h with h; subst h; exact ⟨Try.t23, by kernel_rfl, by kernel_rfl, _, Try.underlying23, fun _ => rfl⟩
    | n + 4 => simp at h⟩
theorem tab47 : InfOK Try.prog 47 (.st [(0, 1), (1, 1), (2, 1), (3, 1)] [(Value.int IntKind.i64 0), (Value.int IntKind.i64 0), (Value.slice none 0 0), (Value.slice none 0 0)]) := ⟨Try.t47, #[(Field.mk "Trial" 3 0 false "" "" 0), (Field.mk "Safe" 3 1 false "" "" 8), (Field.mk "New" 23 2 false "" "" 16), (Field.mk "Old" 23 3 false "" "" 40)], by kernel_rfl, by kernel_rfl, by kernel_rfl, by kernel_rfl, by kernel_rfl, by kernel_rfl, fun n f h => by
    match n with
    | 0 => injection h with h; subst h; exact ⟨Try.t3, by kernel_rfl, by kernel_rfl, _, Try.underlying3, fun _ => rfl⟩
    | 1 => injection h with h; subst h; exact ⟨Try.t3, by kernel_rfl, by kernel_rfl, _, Try.underlying3, fun _ => rfl⟩
    | 2 => injection h with h; subst h; exact ⟨Try.t23, by kernel_rfl, by kernel_rfl, _, Try.underlying23, fun _ => rfl⟩
    | 3 => injection h with h; subst h; exact ⟨Try.t23, by kernel_rfl, by kernel_rfl, _, Try.underlying23, fun _ => rfl⟩
    | n + 4 => simp at h⟩
theorem tab49 : InfOK Try.prog 49 (.sc (Value.nilFunc)) := ⟨Try.t49, (TypeDesc.func #[23, 3, 3] #[47, 3] false), by kernel_rfl, by kernel_rfl, by kernel_rfl, by kernel_rfl, by kernel_rfl, by kernel_rfl, by first | kernel_rfl | trivial⟩
theorem tab50 : InfOK Try.prog 50 (.sl 107 .iib) := ⟨Try.t107, by kernel_rfl, by kernel_rfl, by kernel_rfl, ⟨(Value.agg #[(Value.int IntKind.i64 0), (Value.int IntKind.i64 0), (Value.bool false)]), by kernel_rfl, by kernel_rfl⟩, by decide, by decide, Try.t50, by kernel_rfl, by kernel_rfl, by kernel_rfl⟩
theorem tab51 : InfOK Try.prog 51 (.st [(0, 1), (1, 1), (2, 1)] [(Value.slice none 0 0), (Value.slice none 0 0), (Value.int IntKind.i64 0)]) := ⟨Try.t51, #[(Field.mk "Store" 23 0 false "" "" 0), (Field.mk "Lines" 50 1 false "" "" 24), (Field.mk "Room" 3 2 false "" "" 48)], by kernel_rfl, by kernel_rfl, by kernel_rfl, by kernel_rfl, by kernel_rfl, by kernel_rfl, fun n f h => by
    match n with
    | 0 => injection h with h; subst h; exact ⟨Try.t23, by kernel_rfl, by kernel_rfl, _, Try.underlying23, fun _ => rfl⟩
    | 1 => injection h with h; subst h; exact ⟨Try.t50, by kernel_rfl, by kernel_rfl, _, Try.underlying50, fun _ => rfl⟩
    | 2 => injection h with h; subst h; exact ⟨Try.t3, by kernel_rfl, by kernel_rfl, _, Try.underlying3, fun _ => rfl⟩
    | n + 3 => simp at h⟩
theorem tab52 : InfOK Try.prog 52 (.st [(0, 1), (1, 1), (2, 1)] [(Value.slice none 0 0), (Value.slice none 0 0), (Value.int IntKind.i64 0)]) := ⟨Try.t52, #[(Field.mk "Store" 23 0 false "" "" 0), (Field.mk "Lines" 50 1 false "" "" 24), (Field.mk "Room" 3 2 false "" "" 48)], by kernel_rfl, by kernel_rfl, by kernel_rfl, by kernel_rfl, by kernel_rfl, by kernel_rfl, fun n f h => by
    match n with
    | 0 => injection h with h; subst h; exact ⟨Try.t23, by kernel_rfl, by kernel_rfl, _, Try.underlying23, fun _ => rfl⟩
    | 1 => injection h with h; subst h; exact ⟨Try.t50, by kernel_rfl, by kernel_rfl, _, Try.underlying50, fun _ => rfl⟩
    | 2 => injection h with h; subst h; exact ⟨Try.t3, by kernel_rfl, by kernel_rfl, _, Try.underlying3, fun _ => rfl⟩
    | n + 3 => simp at h⟩
theorem tab53 : InfOK Try.prog 53 (.sc (Value.nilFunc)) := ⟨Try.t53, (TypeDesc.func #[52, 3] #[3] false), by kernel_rfl, by kernel_rfl, by kernel_rfl, by kernel_rfl, by kernel_rfl, by kernel_rfl, by first | kernel_rfl | trivial⟩
theorem tab54 : InfOK Try.prog 54 (.sc (Value.nilFunc)) := ⟨Try.t54, (TypeDesc.func #[26] #[4] false), by kernel_rfl, by kernel_rfl, by kernel_rfl, by kernel_rfl, by kernel_rfl, by kernel_rfl, by first | kernel_rfl | trivial⟩
theorem tab55 : InfOK Try.prog 55 (.sc (Value.nilFunc)) := ⟨Try.t55, (TypeDesc.func #[52] #[26] false), by kernel_rfl, by kernel_rfl, by kernel_rfl, by kernel_rfl, by kernel_rfl, by kernel_rfl, by first | kernel_rfl | trivial⟩
theorem tab56 : InfOK Try.prog 56 (.sc (Value.nilFunc)) := ⟨Try.t56, (TypeDesc.func #[52] #[4] false), by kernel_rfl, by kernel_rfl, by kernel_rfl, by kernel_rfl, by kernel_rfl, by kernel_rfl, by first | kernel_rfl | trivial⟩
theorem tab57 : InfOK Try.prog 57 (.sc (Value.nilFunc)) := ⟨Try.t57, (TypeDesc.func #[26, 3] #[3] false), by kernel_rfl, by kernel_rfl, by kernel_rfl, by kernel_rfl, by kernel_rfl, by kernel_rfl, by first | kernel_rfl | trivial⟩
theorem tab58 : InfOK Try.prog 58 (.sc (Value.nilFunc)) := ⟨Try.t58, (TypeDesc.func #[52, 3] #[4] false), by kernel_rfl, by kernel_rfl, by kernel_rfl, by kernel_rfl, by kernel_rfl, by kernel_rfl, by first | kernel_rfl | trivial⟩
theorem tab59 : InfOK Try.prog 59 (.sc (Value.nilFunc)) := ⟨Try.t59, (TypeDesc.func #[52, 3, 3] #[4] false), by kernel_rfl, by kernel_rfl, by kernel_rfl, by kernel_rfl, by kernel_rfl, by kernel_rfl, by first | kernel_rfl | trivial⟩
theorem tab60 : InfOK Try.prog 60 (.sc (Value.nilFunc)) := ⟨Try.t60, (TypeDesc.func #[26] #[26, 4] false), by kernel_rfl, by kernel_rfl, by kernel_rfl, by kernel_rfl, by kernel_rfl, by kernel_rfl, by first | kernel_rfl | trivial⟩
theorem tab61 : InfOK Try.prog 61 (.sc (Value.nilFunc)) := ⟨Try.t61, (TypeDesc.func #[23, 23] #[4] false), by kernel_rfl, by kernel_rfl, by kernel_rfl, by kernel_rfl, by kernel_rfl, by kernel_rfl, by first | kernel_rfl | trivial⟩
theorem tab63 : InfOK Try.prog 63 (.sc (Value.nilFunc)) := ⟨Try.t63, (TypeDesc.func #[26, 3] #[3, 4] false), by kernel_rfl, by kernel_rfl, by kernel_rfl, by kernel_rfl, by kernel_rfl, by kernel_rfl, by first | kernel_rfl | trivial⟩
theorem tab64 : InfOK Try.prog 64 (.sc (Value.nilFunc)) := ⟨Try.t64, (TypeDesc.func #[3, 3] #[3] false), by kernel_rfl, by kernel_rfl, by kernel_rfl, by kernel_rfl, by kernel_rfl, by kernel_rfl, by first | kernel_rfl | trivial⟩
theorem tab65 : InfOK Try.prog 65 (.sc (Value.nilFunc)) := ⟨Try.t65, (TypeDesc.func #[3, 3] #[4] false), by kernel_rfl, by kernel_rfl, by kernel_rfl, by kernel_rfl, by kernel_rfl, by kernel_rfl, by first | kernel_rfl | trivial⟩
theorem tab66 : InfOK Try.prog 66 (.sc ((Value.pointer none))) := ⟨Try.t66, (TypeDesc.pointer 95), by kernel_rfl, by kernel_rfl, by kernel_rfl, by kernel_rfl, by kernel_rfl, by kernel_rfl, by first | kernel_rfl | trivial⟩
theorem tab67 : InfOK Try.prog 67 (.sc (Value.nilFunc)) := ⟨Try.t67, (TypeDesc.func #[22] #[66] false), by kernel_rfl, by kernel_rfl, by kernel_rfl, by kernel_rfl, by kernel_rfl, by kernel_rfl, by first | kernel_rfl | trivial⟩
theorem tab68 : InfOK Try.prog 68 (.sc (Value.nilFunc)) := ⟨Try.t68, (TypeDesc.func #[66] #[26] false), by kernel_rfl, by kernel_rfl, by kernel_rfl, by kernel_rfl, by kernel_rfl, by kernel_rfl, by first | kernel_rfl | trivial⟩
theorem tab69 : InfOK Try.prog 69 (.sc (Value.nilFunc)) := ⟨Try.t69, (TypeDesc.func #[66] #[3] false), by kernel_rfl, by kernel_rfl, by kernel_rfl, by kernel_rfl, by kernel_rfl, by kernel_rfl, by first | kernel_rfl | trivial⟩
theorem tab70 : InfOK Try.prog 70 (.sc (Value.nilFunc)) := ⟨Try.t70, (TypeDesc.func #[23] #[3] false), by kernel_rfl, by kernel_rfl, by kernel_rfl, by kernel_rfl, by kernel_rfl, by kernel_rfl, by first | kernel_rfl | trivial⟩
theorem tab71 : InfOK Try.prog 71 (.sc (Value.nilFunc)) := ⟨Try.t71, (TypeDesc.func #[3] #[4] false), by kernel_rfl, by kernel_rfl, by kernel_rfl, by kernel_rfl, by kernel_rfl, by kernel_rfl, by first | kernel_rfl | trivial⟩
theorem tab72 : InfOK Try.prog 72 (.sc (Value.nilFunc)) := ⟨Try.t72, (TypeDesc.func #[26, 74] #[26] false), by kernel_rfl, by kernel_rfl, by kernel_rfl, by kernel_rfl, by kernel_rfl, by kernel_rfl, by first | kernel_rfl | trivial⟩
theorem tab73 : InfOK Try.prog 73 (.st [(0, 1), (1, 1), (2, 1)] [(Value.int IntKind.i64 0), (Value.int IntKind.i64 0), (Value.bool false)]) := ⟨Try.t73, #[(Field.mk "Key" 3 0 false "" "" 0), (Field.mk "Value" 3 1 false "" "" 8), (Field.mk "Dirty" 4 2 false "" "" 16)], by kernel_rfl, by kernel_rfl, by kernel_rfl, by kernel_rfl, by kernel_rfl, by kernel_rfl, fun n f h => by
    match n with
    | 0 => injection h with h; subst h; exact ⟨Try.t3, by kernel_rfl, by kernel_rfl, _, Try.underlying3, fun _ => rfl⟩
    | 1 => injection h with h; subst h; exact ⟨Try.t3, by kernel_rfl, by kernel_rfl, _, Try.underlying3, fun _ => rfl⟩
    | 2 => injection h with h; subst h; exact ⟨Try.t4, by kernel_rfl, by kernel_rfl, _, Try.underlying4, fun _ => rfl⟩
    | n + 3 => simp at h⟩
theorem tab74 : InfOK Try.prog 74 (.st [(0, 1), (1, 1), (2, 1)] [(Value.int IntKind.i64 0), (Value.int IntKind.i64 0), (Value.bool false)]) := ⟨Try.t74, #[(Field.mk "Key" 3 0 false "" "" 0), (Field.mk "Value" 3 1 false "" "" 8), (Field.mk "Dirty" 4 2 false "" "" 16)], by kernel_rfl, by kernel_rfl, by kernel_rfl, by kernel_rfl, by kernel_rfl, by kernel_rfl, fun n f h => by
    match n with
    | 0 => injection h with h; subst h; exact ⟨Try.t3, by kernel_rfl, by kernel_rfl, _, Try.underlying3, fun _ => rfl⟩
    | 1 => injection h with h; subst h; exact ⟨Try.t3, by kernel_rfl, by kernel_rfl, _, Try.underlying3, fun _ => rfl⟩
    | 2 => injection h with h; subst h; exact ⟨Try.t4, by kernel_rfl, by kernel_rfl, _, Try.underlying4, fun _ => rfl⟩
    | n + 3 => simp at h⟩
theorem tab75 : InfOK Try.prog 75 (.sc (Value.nilFunc)) := ⟨Try.t75, (TypeDesc.func #[3, 3, 3] #[4] false), by kernel_rfl, by kernel_rfl, by kernel_rfl, by kernel_rfl, by kernel_rfl, by kernel_rfl, by first | kernel_rfl | trivial⟩
theorem tab76 : InfOK Try.prog 76 (.sc (Value.nilFunc)) := ⟨Try.t76, (TypeDesc.func #[26, 3] #[26] false), by kernel_rfl, by kernel_rfl, by kernel_rfl, by kernel_rfl, by kernel_rfl, by kernel_rfl, by first | kernel_rfl | trivial⟩
theorem tab77 : InfOK Try.prog 77 (.sc (Value.nilFunc)) := ⟨Try.t77, (TypeDesc.func #[24, 24] #[4] false), by kernel_rfl, by kernel_rfl, by kernel_rfl, by kernel_rfl, by kernel_rfl, by kernel_rfl, by first | kernel_rfl | trivial⟩
theorem tab78 : InfOK Try.prog 78 (.sc (Value.nilFunc)) := ⟨Try.t78, (TypeDesc.func #[26, 3] #[74] false), by kernel_rfl, by kernel_rfl, by kernel_rfl, by kernel_rfl, by kernel_rfl, by kernel_rfl, by first | kernel_rfl | trivial⟩
theorem tab79 : InfOK Try.prog 79 (.sc (Value.nilFunc)) := ⟨Try.t79, (TypeDesc.func #[66] #[38] false), by kernel_rfl, by kernel_rfl, by kernel_rfl, by kernel_rfl, by kernel_rfl, by kernel_rfl, by first | kernel_rfl | trivial⟩
theorem tab80 : InfOK Try.prog 80 (.sc (Value.nilFunc)) := ⟨Try.t80, (TypeDesc.func #[38] #[4] false), by kernel_rfl, by kernel_rfl, by kernel_rfl, by kernel_rfl, by kernel_rfl, by kernel_rfl, by first | kernel_rfl | trivial⟩
theorem tab81 : InfOK Try.prog 81 (.sc (Value.nilFunc)) := ⟨Try.t81, (TypeDesc.func #[3] #[3] false), by kernel_rfl, by kernel_rfl, by kernel_rfl, by kernel_rfl, by kernel_rfl, by kernel_rfl, by first | kernel_rfl | trivial⟩
theorem tab82 : InfOK Try.prog 82 (.sc (Value.nilFunc)) := ⟨Try.t82, (TypeDesc.func #[23] #[4] false), by kernel_rfl, by kernel_rfl, by kernel_rfl, by kernel_rfl, by kernel_rfl, by kernel_rfl, by first | kernel_rfl | trivial⟩
theorem tab83 : InfOK Try.prog 83 (.sc (Value.nilFunc)) := ⟨Try.t83, (TypeDesc.func #[3, 3, 81] #[3] false), by kernel_rfl, by kernel_rfl, by kernel_rfl, by kernel_rfl, by kernel_rfl, by kernel_rfl, by first | kernel_rfl | trivial⟩
theorem tab84 : InfOK Try.prog 84 (.sc (Value.nilFunc)) := ⟨Try.t84, (TypeDesc.func #[23, 47, 85] #[47, 3] false), by kernel_rfl, by kernel_rfl, by kernel_rfl, by kernel_rfl, by kernel_rfl, by kernel_rfl, by first | kernel_rfl | trivial⟩
theorem tab85 : InfOK Try.prog 85 (.sc (Value.nilFunc)) := ⟨Try.t85, (TypeDesc.func #[47, 3] #[47, 4] false), by kernel_rfl, by kernel_rfl, by kernel_rfl, by kernel_rfl, by kernel_rfl, by kernel_rfl, by first | kernel_rfl | trivial⟩
theorem tab86 : InfOK Try.prog 86 (.sc (Value.nilFunc)) := ⟨Try.t86, (TypeDesc.func #[23, 3] #[23] false), by kernel_rfl, by kernel_rfl, by kernel_rfl, by kernel_rfl, by kernel_rfl, by kernel_rfl, by first | kernel_rfl | trivial⟩
theorem tab87 : InfOK Try.prog 87 (.sc (Value.nilFunc)) := ⟨Try.t87, (TypeDesc.func #[23, 3, 23] #[3] false), by kernel_rfl, by kernel_rfl, by kernel_rfl, by kernel_rfl, by kernel_rfl, by kernel_rfl, by first | kernel_rfl | trivial⟩
theorem tab88 : InfOK Try.prog 88 (.sc (Value.nilFunc)) := ⟨Try.t88, (TypeDesc.func #[50, 3] #[3] false), by kernel_rfl, by kernel_rfl, by kernel_rfl, by kernel_rfl, by kernel_rfl, by kernel_rfl, by first | kernel_rfl | trivial⟩
theorem tab89 : InfOK Try.prog 89 (.sc (Value.nilFunc)) := ⟨Try.t89, (TypeDesc.func #[23] #[23] false), by kernel_rfl, by kernel_rfl, by kernel_rfl, by kernel_rfl, by kernel_rfl, by kernel_rfl, by first | kernel_rfl | trivial⟩
theorem tab90 : InfOK Try.prog 90 (.sc (Value.nilFunc)) := ⟨Try.t90, (TypeDesc.func #[50] #[24] false), by kernel_rfl, by kernel_rfl, by kernel_rfl, by kernel_rfl, by kernel_rfl, by kernel_rfl, by first | kernel_rfl | trivial⟩
theorem tab91 : InfOK Try.prog 91 (.sc (Value.nilFunc)) := ⟨Try.t91, (TypeDesc.func #[24] #[23] false), by kernel_rfl, by kernel_rfl, by kernel_rfl, by kernel_rfl, by kernel_rfl, by kernel_rfl, by first | kernel_rfl | trivial⟩
theorem tab92 : InfOK Try.prog 92 (.sc (Value.nilFunc)) := ⟨Try.t92, (TypeDesc.func #[24, 3] #[3] false), by kernel_rfl, by kernel_rfl, by kernel_rfl, by kernel_rfl, by kernel_rfl, by kernel_rfl, by first | kernel_rfl | trivial⟩
theorem tab93 : InfOK Try.prog 93 (.sc (Value.nilFunc)) := ⟨Try.t93, (TypeDesc.func #[26] #[26] false), by kernel_rfl, by kernel_rfl, by kernel_rfl, by kernel_rfl, by kernel_rfl, by kernel_rfl, by first | kernel_rfl | trivial⟩
theorem tab94 : InfOK Try.prog 94 (.st [(0, 1), (1, 1)] [(Value.slice none 0 0), (Value.int IntKind.i64 0)]) := ⟨Try.t94, #[(Field.mk "b" 22 0 false "" "loop.example/cacheengine/spec" 0), (Field.mk "p" 3 1 false "" "loop.example/cacheengine/spec" 24)], by kernel_rfl, by kernel_rfl, by kernel_rfl, by kernel_rfl, by kernel_rfl, by kernel_rfl, fun n f h => by
    match n with
    | 0 => injection h with h; subst h; exact ⟨Try.t22, by kernel_rfl, by kernel_rfl, _, Try.underlying22, fun _ => rfl⟩
    | 1 => injection h with h; subst h; exact ⟨Try.t3, by kernel_rfl, by kernel_rfl, _, Try.underlying3, fun _ => rfl⟩
    | n + 2 => simp at h⟩
theorem tab95 : InfOK Try.prog 95 (.st [(0, 1), (1, 1)] [(Value.slice none 0 0), (Value.int IntKind.i64 0)]) := ⟨Try.t95, #[(Field.mk "b" 22 0 false "" "loop.example/cacheengine/spec" 0), (Field.mk "p" 3 1 false "" "loop.example/cacheengine/spec" 24)], by kernel_rfl, by kernel_rfl, by kernel_rfl, by kernel_rfl, by kernel_rfl, by kernel_rfl, fun n f h => by
    match n with
    | 0 => injection h with h; subst h; exact ⟨Try.t22, by kernel_rfl, by kernel_rfl, _, Try.underlying22, fun _ => rfl⟩
    | 1 => injection h with h; subst h; exact ⟨Try.t3, by kernel_rfl, by kernel_rfl, _, Try.underlying3, fun _ => rfl⟩
    | n + 2 => simp at h⟩
theorem tab96 : InfOK Try.prog 96 (.sc (Value.nilFunc)) := ⟨Try.t96, (TypeDesc.func #[24] #[24] false), by kernel_rfl, by kernel_rfl, by kernel_rfl, by kernel_rfl, by kernel_rfl, by kernel_rfl, by first | kernel_rfl | trivial⟩
theorem tab97 : InfOK Try.prog 97 (.sc (Value.nilFunc)) := ⟨Try.t97, (TypeDesc.func #[23, 3, 3] #[4] false), by kernel_rfl, by kernel_rfl, by kernel_rfl, by kernel_rfl, by kernel_rfl, by kernel_rfl, by first | kernel_rfl | trivial⟩
theorem tab98 : InfOK Try.prog 98 (.sc (Value.nilFunc)) := ⟨Try.t98, (TypeDesc.func #[24, 3] #[4] false), by kernel_rfl, by kernel_rfl, by kernel_rfl, by kernel_rfl, by kernel_rfl, by kernel_rfl, by first | kernel_rfl | trivial⟩
theorem tab99 : InfOK Try.prog 99 (.sc (Value.nilFunc)) := ⟨Try.t99, (TypeDesc.func #[66] #[23] false), by kernel_rfl, by kernel_rfl, by kernel_rfl, by kernel_rfl, by kernel_rfl, by kernel_rfl, by first | kernel_rfl | trivial⟩
theorem tab101 : InfOK Try.prog 101 (.sc (Value.nilFunc)) := ⟨Try.t101, (TypeDesc.func #[4] #[3] false), by kernel_rfl, by kernel_rfl, by kernel_rfl, by kernel_rfl, by kernel_rfl, by kernel_rfl, by first | kernel_rfl | trivial⟩
theorem tab102 : InfOK Try.prog 102 (.sc (Value.nilFunc)) := ⟨Try.t102, (TypeDesc.func #[47] #[4] false), by kernel_rfl, by kernel_rfl, by kernel_rfl, by kernel_rfl, by kernel_rfl, by kernel_rfl, by first | kernel_rfl | trivial⟩
theorem tab104 : InfOK Try.prog 104 (.sc (Value.nilFunc)) := ⟨Try.t104, (TypeDesc.func #[23, 3, 3] #[23, 4] false), by kernel_rfl, by kernel_rfl, by kernel_rfl, by kernel_rfl, by kernel_rfl, by kernel_rfl, by first | kernel_rfl | trivial⟩
theorem tab105 : InfOK Try.prog 105 (.sc (Value.nilFunc)) := ⟨Try.t105, (TypeDesc.func #[23, 3, 3] #[3] false), by kernel_rfl, by kernel_rfl, by kernel_rfl, by kernel_rfl, by kernel_rfl, by kernel_rfl, by first | kernel_rfl | trivial⟩
theorem tab106 : InfOK Try.prog 106 (.sc (Value.nilFunc)) := ⟨Try.t106, (TypeDesc.func #[107] #[74] false), by kernel_rfl, by kernel_rfl, by kernel_rfl, by kernel_rfl, by kernel_rfl, by kernel_rfl, by first | kernel_rfl | trivial⟩
theorem tab107 : InfOK Try.prog 107 (.st [(0, 1), (1, 1), (2, 1)] [(Value.int IntKind.i64 0), (Value.int IntKind.i64 0), (Value.bool false)]) := ⟨Try.t107, #[(Field.mk "Key" 3 0 false "" "" 0), (Field.mk "Value" 3 1 false "" "" 8), (Field.mk "Dirty" 4 2 false "" "" 16)], by kernel_rfl, by kernel_rfl, by kernel_rfl, by kernel_rfl, by kernel_rfl, by kernel_rfl, fun n f h => by
    match n with
    | 0 => injection h with h; subst h; exact ⟨Try.t3, by kernel_rfl, by kernel_rfl, _, Try.underlying3, fun _ => rfl⟩
    | 1 => injection h with h; subst h; exact ⟨Try.t3, by kernel_rfl, by kernel_rfl, _, Try.underlying3, fun _ => rfl⟩
    | 2 => injection h with h; subst h; exact ⟨Try.t4, by kernel_rfl, by kernel_rfl, _, Try.underlying4, fun _ => rfl⟩
    | n + 3 => simp at h⟩
theorem tab108 : InfOK Try.prog 108 (.sc (Value.nilFunc)) := ⟨Try.t108, (TypeDesc.func #[74, 74] #[4] false), by kernel_rfl, by kernel_rfl, by kernel_rfl, by kernel_rfl, by kernel_rfl, by kernel_rfl, by first | kernel_rfl | trivial⟩
theorem tab109 : InfOK Try.prog 109 (.sc (Value.nilFunc)) := ⟨Try.t109, (TypeDesc.func #[] #[9] false), by kernel_rfl, by kernel_rfl, by kernel_rfl, by kernel_rfl, by kernel_rfl, by kernel_rfl, by first | kernel_rfl | trivial⟩
theorem tab110 : InfOK Try.prog 110 (.st [(0, 1), (1, 1), (2, 1), (3, 1)] [(Value.pointer none), (Value.pointer none), (Value.pointer none), (Value.string (ByteArray.mk #[]))]) := ⟨Try.t110, #[(Field.mk "_interface" 17 0 false "" "runtime" 0), (Field.mk "concrete" 17 1 false "" "runtime" 8), (Field.mk "asserted" 17 2 false "" "runtime" 16), (Field.mk "missingMethod" 9 3 false "" "runtime" 24)], by kernel_rfl, by kernel_rfl, by kernel_rfl, by kernel_rfl, by kernel_rfl, by kernel_rfl, fun n f h => by
    match n with
    | 0 => injection h with h; subst h; exact ⟨Try.t17, by kernel_rfl, by kernel_rfl, _, Try.underlying17, fun _ => rfl⟩
    | 1 => injection h with h; subst h; exact ⟨Try.t17, by kernel_rfl, by kernel_rfl, _, Try.underlying17, fun _ => rfl⟩
    | 2 => injection h with h; subst h; exact ⟨Try.t17, by kernel_rfl, by kernel_rfl, _, Try.underlying17, fun _ => rfl⟩
    | 3 => injection h with h; subst h; exact ⟨Try.t9, by kernel_rfl, by kernel_rfl, _, Try.underlying9, fun _ => rfl⟩
    | n + 4 => simp at h⟩
theorem tab111 : InfOK Try.prog 111 (.st [(0, 1), (1, 1), (2, 1), (3, 1)] [(Value.pointer none), (Value.pointer none), (Value.pointer none), (Value.string (ByteArray.mk #[]))]) := ⟨Try.t111, #[(Field.mk "_interface" 17 0 false "" "runtime" 0), (Field.mk "concrete" 17 1 false "" "runtime" 8), (Field.mk "asserted" 17 2 false "" "runtime" 16), (Field.mk "missingMethod" 9 3 false "" "runtime" 24)], by kernel_rfl, by kernel_rfl, by kernel_rfl, by kernel_rfl, by kernel_rfl, by kernel_rfl, fun n f h => by
    match n with
    | 0 => injection h with h; subst h; exact ⟨Try.t17, by kernel_rfl, by kernel_rfl, _, Try.underlying17, fun _ => rfl⟩
    | 1 => injection h with h; subst h; exact ⟨Try.t17, by kernel_rfl, by kernel_rfl, _, Try.underlying17, fun _ => rfl⟩
    | 2 => injection h with h; subst h; exact ⟨Try.t17, by kernel_rfl, by kernel_rfl, _, Try.underlying17, fun _ => rfl⟩
    | 3 => injection h with h; subst h; exact ⟨Try.t9, by kernel_rfl, by kernel_rfl, _, Try.underlying9, fun _ => rfl⟩
    | n + 4 => simp at h⟩
theorem tab113 : InfOK Try.prog 113 (.st [(0, 0)] []) := ⟨Try.t113, #[(Field.mk "_" 112 0 false "" "runtime" 0)], by kernel_rfl, by kernel_rfl, by kernel_rfl, by kernel_rfl, by kernel_rfl, by kernel_rfl, fun n f h => by
    match n with
    | 0 => injection h with h; subst h; exact ⟨Try.t112, by kernel_rfl, by kernel_rfl, _, Try.underlying112, fun h => absurd h (by decide)⟩
    | n + 1 => simp at h⟩
theorem tab114 : InfOK Try.prog 114 (.st [(0, 0)] []) := ⟨Try.t114, #[(Field.mk "_" 112 0 false "" "runtime" 0)], by kernel_rfl, by kernel_rfl, by kernel_rfl, by kernel_rfl, by kernel_rfl, by kernel_rfl, fun n f h => by
    match n with
    | 0 => injection h with h; subst h; exact ⟨Try.t112, by kernel_rfl, by kernel_rfl, _, Try.underlying112, fun h => absurd h (by decide)⟩
    | n + 1 => simp at h⟩
theorem tab115 : InfOK Try.prog 115 (.sc (Value.nilFunc)) := ⟨Try.t115, (TypeDesc.func #[] #[3] false), by kernel_rfl, by kernel_rfl, by kernel_rfl, by kernel_rfl, by kernel_rfl, by kernel_rfl, by first | kernel_rfl | trivial⟩
theorem tab116 : InfOK Try.prog 116 (.sc ((Value.int IntKind.u32 0))) := ⟨Try.t116, (TypeDesc.int IntKind.u32), by kernel_rfl, by kernel_rfl, by kernel_rfl, by kernel_rfl, by kernel_rfl, by kernel_rfl, by first | kernel_rfl | trivial⟩
theorem tab117 : InfOK Try.prog 117 (.sc ((Value.int IntKind.u8 0))) := ⟨Try.t117, (TypeDesc.int IntKind.u8), by kernel_rfl, by kernel_rfl, by kernel_rfl, by kernel_rfl, by kernel_rfl, by kernel_rfl, by first | kernel_rfl | trivial⟩
theorem tab118 : InfOK Try.prog 118 (.sc ((Value.int IntKind.u8 0))) := ⟨Try.t118, (TypeDesc.int IntKind.u8), by kernel_rfl, by kernel_rfl, by kernel_rfl, by kernel_rfl, by kernel_rfl, by kernel_rfl, by first | kernel_rfl | trivial⟩
theorem tab119 : InfOK Try.prog 119 (.sc (Value.nilFunc)) := ⟨Try.t119, (TypeDesc.func #[125, 125] #[4] false), by kernel_rfl, by kernel_rfl, by kernel_rfl, by kernel_rfl, by kernel_rfl, by kernel_rfl, by first | kernel_rfl | trivial⟩
theorem tab120 : InfOK Try.prog 120 (.sc ((Value.pointer none))) := ⟨Try.t120, (TypeDesc.pointer 5), by kernel_rfl, by kernel_rfl, by kernel_rfl, by kernel_rfl, by kernel_rfl, by kernel_rfl, by first | kernel_rfl | trivial⟩
theorem tab121 : InfOK Try.prog 121 (.sc ((Value.int IntKind.i32 0))) := ⟨Try.t121, (TypeDesc.int IntKind.i32), by kernel_rfl, by kernel_rfl, by kernel_rfl, by kernel_rfl, by kernel_rfl, by kernel_rfl, by first | kernel_rfl | trivial⟩
theorem tab122 : InfOK Try.prog 122 (.sc ((Value.int IntKind.i32 0))) := ⟨Try.t122, (TypeDesc.int IntKind.i32), by kernel_rfl, by kernel_rfl, by kernel_rfl, by kernel_rfl, by kernel_rfl, by kernel_rfl, by first | kernel_rfl | trivial⟩
theorem tab123 : InfOK Try.prog 123 (.st [(0, 1), (1, 1), (2, 1), (3, 1), (4, 1), (5, 1), (6, 1), (7, 1), (8, 1), (9, 1), (10, 1)] [(Value.int IntKind.u64 0), (Value.int IntKind.u64 0), (Value.int IntKind.u32 0), (Value.int IntKind.u8 0), (Value.int IntKind.u8 0), (Value.int IntKind.u8 0), (Value.int IntKind.u8 0), Value.nilFunc, (Value.pointer none), (Value.int IntKind.i32 0), (Value.int IntKind.i32 0)]) := ⟨Try.t123, #[(Field.mk "Size_" 12 0 false "" "" 0), (Field.mk "PtrBytes" 12 1 false "" "" 8), (Field.mk "Hash" 116 2 false "" "" 16), (Field.mk "TFlag" 117 3 false "" "" 20), (Field.mk "Align_" 5 4 false "" "" 21), (Field.mk "FieldAlign_" 5 5 false "" "" 22), (Field.mk "Kind_" 118 6 false "" "" 23), (Field.mk "Equal" 119 7 false "" "" 24), (Field.mk "GCData" 120 8 false "" "" 32), (Field.mk "Str" 121 9 false "" "" 40), (Field.mk "PtrToThis" 122 10 false "" "" 44)], by kernel_rfl, by kernel_rfl, by kernel_rfl, by kernel_rfl, by kernel_rfl, by kernel_rfl, fun n f h => by
    match n with
    | 0 => injection h with h; subst h; exact ⟨Try.t12, by kernel_rfl, by kernel_rfl, _, Try.underlying12, fun _ => rfl⟩
    | 1 => injection h with h; subst h; exact ⟨Try.t12, by kernel_rfl, by kernel_rfl, _, Try.underlying12, fun _ => rfl⟩
    | 2 => injection h with h; subst h; exact ⟨Try.t116, by kernel_rfl, by kernel_rfl, _, Try.underlying116, fun _ => rfl⟩
    | 3 => injection h with h; subst h; exact ⟨Try.t117, by kernel_rfl, by kernel_rfl, _, Try.underlying117, fun _ => rfl⟩
    | 4 => injection h with h; subst h; exact ⟨Try.t5, by kernel_rfl, by kernel_rfl, _, Try.underlying5, fun _ => rfl⟩
    | 5 => injection h with h; subst h; exact ⟨Try.t5, by kernel_rfl, by kernel_rfl, _, Try.underlying5, fun _ => rfl⟩
    | 6 => injection h with h; subst h; exact ⟨Try.t118, by kernel_rfl, by kernel_rfl, _, Try.underlying118, fun _ => rfl⟩
    | 7 => injection h with h; subst h; exact ⟨Try.t119, by kernel_rfl, by kernel_rfl, _, Try.underlying119, fun _ => rfl⟩
    | 8 => injection h with h; subst h; exact ⟨Try.t120, by kernel_rfl, by kernel_rfl, _, Try.underlying120, fun _ => rfl⟩
    | 9 => injection h with h; subst h; exact ⟨Try.t121, by kernel_rfl, by kernel_rfl, _, Try.underlying121, fun _ => rfl⟩
    | 10 => injection h with h; subst h; exact ⟨Try.t122, by kernel_rfl, by kernel_rfl, _, Try.underlying122, fun _ => rfl⟩
    | n + 11 => simp at h⟩
theorem tab124 : InfOK Try.prog 124 (.st [(0, 1), (1, 1), (2, 1), (3, 1), (4, 1), (5, 1), (6, 1), (7, 1), (8, 1), (9, 1), (10, 1)] [(Value.int IntKind.u64 0), (Value.int IntKind.u64 0), (Value.int IntKind.u32 0), (Value.int IntKind.u8 0), (Value.int IntKind.u8 0), (Value.int IntKind.u8 0), (Value.int IntKind.u8 0), Value.nilFunc, (Value.pointer none), (Value.int IntKind.i32 0), (Value.int IntKind.i32 0)]) := ⟨Try.t124, #[(Field.mk "Size_" 12 0 false "" "" 0), (Field.mk "PtrBytes" 12 1 false "" "" 8), (Field.mk "Hash" 116 2 false "" "" 16), (Field.mk "TFlag" 117 3 false "" "" 20), (Field.mk "Align_" 5 4 false "" "" 21), (Field.mk "FieldAlign_" 5 5 false "" "" 22), (Field.mk "Kind_" 118 6 false "" "" 23), (Field.mk "Equal" 119 7 false "" "" 24), (Field.mk "GCData" 120 8 false "" "" 32), (Field.mk "Str" 121 9 false "" "" 40), (Field.mk "PtrToThis" 122 10 false "" "" 44)], by kernel_rfl, by kernel_rfl, by kernel_rfl, by kernel_rfl, by kernel_rfl, by kernel_rfl, fun n f h => by
    match n with
    | 0 => injection h with h; subst h; exact ⟨Try.t12, by kernel_rfl, by kernel_rfl, _, Try.underlying12, fun _ => rfl⟩
    | 1 => injection h with h; subst h; exact ⟨Try.t12, by kernel_rfl, by kernel_rfl, _, Try.underlying12, fun _ => rfl⟩
    | 2 => injection h with h; subst h; exact ⟨Try.t116, by kernel_rfl, by kernel_rfl, _, Try.underlying116, fun _ => rfl⟩
    | 3 => injection h with h; subst h; exact ⟨Try.t117, by kernel_rfl, by kernel_rfl, _, Try.underlying117, fun _ => rfl⟩
    | 4 => injection h with h; subst h; exact ⟨Try.t5, by kernel_rfl, by kernel_rfl, _, Try.underlying5, fun _ => rfl⟩
    | 5 => injection h with h; subst h; exact ⟨Try.t5, by kernel_rfl, by kernel_rfl, _, Try.underlying5, fun _ => rfl⟩
    | 6 => injection h with h; subst h; exact ⟨Try.t118, by kernel_rfl, by kernel_rfl, _, Try.underlying118, fun _ => rfl⟩
    | 7 => injection h with h; subst h; exact ⟨Try.t119, by kernel_rfl, by kernel_rfl, _, Try.underlying119, fun _ => rfl⟩
    | 8 => injection h with h; subst h; exact ⟨Try.t120, by kernel_rfl, by kernel_rfl, _, Try.underlying120, fun _ => rfl⟩
    | 9 => injection h with h; subst h; exact ⟨Try.t121, by kernel_rfl, by kernel_rfl, _, Try.underlying121, fun _ => rfl⟩
    | 10 => injection h with h; subst h; exact ⟨Try.t122, by kernel_rfl, by kernel_rfl, _, Try.underlying122, fun _ => rfl⟩
    | n + 11 => simp at h⟩
theorem tab125 : InfOK Try.prog 125 (.sc ((Value.pointer none))) := ⟨Try.t125, TypeDesc.unsafePointer, by kernel_rfl, by kernel_rfl, by kernel_rfl, by kernel_rfl, by kernel_rfl, by kernel_rfl, by first | kernel_rfl | trivial⟩
theorem tab1000037 : InfOK Try.prog 1000037 (.eq 37 [.int, .int, .int]) := ⟨by kernel_rfl, by kernel_rfl, by kernel_rfl, by
    rw [show (Try.prog.fieldsOf 37).toList = [(Field.mk "At" 3 0 false "" "" 0), (Field.mk "Step" 3 1 false "" "" 8), (Field.mk "Ratio" 3 2 false "" "" 16)] by kernel_rfl]
    exact ⟨by decide, rfl, .inl ⟨rfl, Try.underlying3⟩, by decide, rfl, .inl ⟨rfl, Try.underlying3⟩, by decide, rfl, .inl ⟨rfl, Try.underlying3⟩, trivial⟩⟩
theorem tab1000038 : InfOK Try.prog 1000038 (.eq 38 [.int, .int, .int]) := ⟨by kernel_rfl, by kernel_rfl, by kernel_rfl, by
    rw [show (Try.prog.fieldsOf 38).toList = [(Field.mk "At" 3 0 false "" "" 0), (Field.mk "Step" 3 1 false "" "" 8), (Field.mk "Ratio" 3 2 false "" "" 16)] by kernel_rfl]
    exact ⟨by decide, rfl, .inl ⟨rfl, Try.underlying3⟩, by decide, rfl, .inl ⟨rfl, Try.underlying3⟩, by decide, rfl, .inl ⟨rfl, Try.underlying3⟩, trivial⟩⟩
theorem tab1000073 : InfOK Try.prog 1000073 (.eq 73 [.int, .int, .bool]) := ⟨by kernel_rfl, by kernel_rfl, by kernel_rfl, by
    rw [show (Try.prog.fieldsOf 73).toList = [(Field.mk "Key" 3 0 false "" "" 0), (Field.mk "Value" 3 1 false "" "" 8), (Field.mk "Dirty" 4 2 false "" "" 16)] by kernel_rfl]
    exact ⟨by decide, rfl, .inl ⟨rfl, Try.underlying3⟩, by decide, rfl, .inl ⟨rfl, Try.underlying3⟩, by decide, rfl, .inr ⟨rfl, Try.underlying4⟩, trivial⟩⟩
theorem tab1000074 : InfOK Try.prog 1000074 (.eq 74 [.int, .int, .bool]) := ⟨by kernel_rfl, by kernel_rfl, by kernel_rfl, by
    rw [show (Try.prog.fieldsOf 74).toList = [(Field.mk "Key" 3 0 false "" "" 0), (Field.mk "Value" 3 1 false "" "" 8), (Field.mk "Dirty" 4 2 false "" "" 16)] by kernel_rfl]
    exact ⟨by decide, rfl, .inl ⟨rfl, Try.underlying3⟩, by decide, rfl, .inl ⟨rfl, Try.underlying3⟩, by decide, rfl, .inr ⟨rfl, Try.underlying4⟩, trivial⟩⟩
theorem tab1000107 : InfOK Try.prog 1000107 (.eq 107 [.int, .int, .bool]) := ⟨by kernel_rfl, by kernel_rfl, by kernel_rfl, by
    rw [show (Try.prog.fieldsOf 107).toList = [(Field.mk "Key" 3 0 false "" "" 0), (Field.mk "Value" 3 1 false "" "" 8), (Field.mk "Dirty" 4 2 false "" "" 16)] by kernel_rfl]
    exact ⟨by decide, rfl, .inl ⟨rfl, Try.underlying3⟩, by decide, rfl, .inl ⟨rfl, Try.underlying3⟩, by decide, rfl, .inr ⟨rfl, Try.underlying4⟩, trivial⟩⟩
theorem tabOK : TabOK Try.prog TT := tabOK_of ⟨tab1, tab2, tab3, tab4, tab5, tab6, tab7, tab8, tab9, tab10, tab11, tab12, tab13, tab14, tab15, tab16, tab17, tab18, tab19, tab20, tab21, tab22, tab23, tab24, tab25, tab26, tab28, tab30, tab31, tab33, tab34, tab35, tab36, tab37, tab38, tab40, tab42, tab44, tab45, tab46, tab47, tab49, tab50, tab51, tab52, tab53, tab54, tab55, tab56, tab57, tab58, tab59, tab60, tab61, tab63, tab64, tab65, tab66, tab67, tab68, tab69, tab70, tab71, tab72, tab73, tab74, tab75, tab76, tab77, tab78, tab79, tab80, tab81, tab82, tab83, tab84, tab85, tab86, tab87, tab88, tab89, tab90, tab91, tab92, tab93, tab94, tab95, tab96, tab97, tab98, tab99, tab101, tab102, tab104, tab105, tab106, tab107, tab108, tab109, tab110, tab111, tab113, tab114, tab115, tab116, tab117, tab118, tab119, tab120, tab121, tab122, tab123, tab124, tab125, tab1000037, tab1000038, tab1000073, tab1000074, tab1000107, trivial⟩
theorem mixed : Try.prog.follows .mixedOrders = true := by kernel_rfl
end Go.Ev
