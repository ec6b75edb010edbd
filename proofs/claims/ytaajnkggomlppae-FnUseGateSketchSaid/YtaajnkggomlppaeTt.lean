/- The types of the program, as the evaluator wants them. No statement is proved here. -/
import Derived.Test.YtaajnkggomlppaeEvT
import Derived.Test.YtaajnkggomlppaeChecked
namespace Go.Ev
set_option linter.unusedVariables false
open Go Go.Proofs
def TT : Tab := [(1, .sc (Value.nilFunc)),
  (2, .sc ((Value.int IntKind.i64 0))),
  (3, .sc ((Value.int IntKind.i64 0))),
  (4, .sc ((Value.bool false))),
  (5, .sc ((Value.int IntKind.u8 0))),
  (6, .sc ((Value.int IntKind.u8 0))),
  (7, .st [(0, 1), (1, 1), (2, 1), (3, 1)] [(Value.int IntKind.i64 0), (Value.int IntKind.i64 0), (Value.bool false), (Value.int IntKind.u8 0)]),
  (8, .st [(0, 1), (1, 1), (2, 1), (3, 1)] [(Value.int IntKind.i64 0), (Value.int IntKind.i64 0), (Value.bool false), (Value.int IntKind.u8 0)]),
  (9, .sc ((Value.string (ByteArray.mk #[])))),
  (10, .sc ((Value.string (ByteArray.mk #[])))),
  (11, .sc ((Value.string (ByteArray.mk #[])))),
  (12, .sc ((Value.int IntKind.u64 0))),
  (13, .st [(0, 1), (1, 1)] [(Value.string (ByteArray.mk #[])), (Value.int IntKind.u64 0)]),
  (14, .st [(0, 1), (1, 1)] [(Value.string (ByteArray.mk #[])), (Value.int IntKind.u64 0)]),
  (15, .sc ((Value.pointer none))),
  (16, .sc ((Value.pointer none))),
  (17, .sc ((Value.pointer none))),
  (18, .st [(0, 1)] [(Value.pointer none)]),
  (19, .st [(0, 1)] [(Value.pointer none)]),
  (20, .sc (Value.nilIface)),
  (21, .sc ((Value.int IntKind.i32 0))),
  (22, .sl 5 .u8),
  (23, .sl 3 .int),
  (25, .sc (Value.nilFunc)),
  (26, .sc (Value.nilFunc)),
  (27, .sc (Value.nilFunc)),
  (28, .sl 4 .bool),
  (29, .st [(0, 1), (1, 1), (2, 1), (3, 1)] [(Value.int IntKind.i64 0), (Value.slice none 0 0), (Value.slice none 0 0), (Value.int IntKind.i64 0)]),
  (30, .st [(0, 1), (1, 1), (2, 1), (3, 1)] [(Value.int IntKind.i64 0), (Value.slice none 0 0), (Value.slice none 0 0), (Value.int IntKind.i64 0)]),
  (32, .sc (Value.nilFunc)),
  (33, .sl 98 .iii),
  (35, .sc (Value.nilFunc)),
  (36, .st [(0, 1), (1, 1), (2, 1), (3, 1), (4, 1), (5, 1)] [(Value.int IntKind.i64 0), (Value.int IntKind.i64 0), (Value.slice none 0 0), (Value.slice none 0 0), (Value.slice none 0 0), (Value.slice none 0 0)]),
  (37, .st [(0, 1), (1, 1), (2, 1), (3, 1), (4, 1), (5, 1)] [(Value.int IntKind.i64 0), (Value.int IntKind.i64 0), (Value.slice none 0 0), (Value.slice none 0 0), (Value.slice none 0 0), (Value.slice none 0 0)]),
  (39, .sc (Value.nilFunc)),
  (40, .sc (Value.nilFunc)),
  (41, .st [(0, 1), (1, 1), (2, 1), (3, 1), (4, 1), (5, 1)] [(Value.int IntKind.i64 0), (Value.int IntKind.i64 0), (Value.slice none 0 0), (Value.slice none 0 0), (Value.slice none 0 0), (Value.int IntKind.i64 0)]),
  (42, .st [(0, 1), (1, 1), (2, 1), (3, 1), (4, 1), (5, 1)] [(Value.int IntKind.i64 0), (Value.int IntKind.i64 0), (Value.slice none 0 0), (Value.slice none 0 0), (Value.slice none 0 0), (Value.int IntKind.i64 0)]),
  (44, .sc (Value.nilFunc)),
  (46, .sc (Value.nilFunc)),
  (47, .sc (Value.nilFunc)),
  (48, .sc (Value.nilFunc)),
  (49, .sc (Value.nilFunc)),
  (50, .sc (Value.nilFunc)),
  (51, .sc (Value.nilFunc)),
  (52, .sc (Value.nilFunc)),
  (53, .sc (Value.nilFunc)),
  (55, .sc (Value.nilFunc)),
  (56, .sc (Value.nilFunc)),
  (57, .sc (Value.nilFunc)),
  (58, .st [(0, 1), (1, 1), (2, 1), (3, 1), (4, 1), (5, 1)] [(Value.int IntKind.i64 0), (Value.int IntKind.i64 0), (Value.slice none 0 0), (Value.slice none 0 0), (Value.slice none 0 0), (Value.int IntKind.i64 0)]),
  (59, .sc (Value.nilFunc)),
  (60, .sc (Value.nilFunc)),
  (61, .sc (Value.nilFunc)),
  (62, .sc (Value.nilFunc)),
  (63, .sc (Value.nilFunc)),
  (64, .sc (Value.nilFunc)),
  (65, .sc (Value.nilFunc)),
  (66, .sc (Value.nilFunc)),
  (67, .sc (Value.nilFunc)),
  (68, .sc (Value.nilFunc)),
  (69, .sc (Value.nilFunc)),
  (70, .sc (Value.nilFunc)),
  (71, .sc (Value.nilFunc)),
  (73, .sc (Value.nilFunc)),
  (74, .sc (Value.nilFunc)),
  (75, .sc (Value.nilFunc)),
  (76, .sc (Value.nilFunc)),
  (77, .sc ((Value.pointer none))),
  (78, .sc (Value.nilFunc)),
  (79, .sc (Value.nilFunc)),
  (80, .sc (Value.nilFunc)),
  (81, .sc (Value.nilFunc)),
  (82, .sc (Value.nilFunc)),
  (83, .sc (Value.nilFunc)),
  (84, .sc (Value.nilFunc)),
  (85, .sc (Value.nilFunc)),
  (86, .sc (Value.nilFunc)),
  (87, .sc (Value.nilFunc)),
  (88, .sc (Value.nilFunc)),
  (89, .sc (Value.nilFunc)),
  (90, .sc (Value.nilFunc)),
  (92, .sc (Value.nilFunc)),
  (94, .sc (Value.nilFunc)),
  (95, .sc (Value.nilFunc)),
  (96, .sc (Value.nilFunc)),
  (97, .st [(0, 1), (1, 1), (2, 1)] [(Value.int IntKind.i64 0), (Value.int IntKind.i64 0), (Value.int IntKind.i64 0)]),
  (98, .st [(0, 1), (1, 1), (2, 1)] [(Value.int IntKind.i64 0), (Value.int IntKind.i64 0), (Value.int IntKind.i64 0)]),
  (99, .sc (Value.nilFunc)),
  (100, .sc (Value.nilFunc)),
  (101, .sc (Value.nilFunc)),
  (103, .sc (Value.nilFunc)),
  (104, .sc (Value.nilFunc)),
  (105, .sc (Value.nilFunc)),
  (106, .st [(0, 1), (1, 1)] [(Value.slice none 0 0), (Value.int IntKind.i64 0)]),
  (107, .st [(0, 1), (1, 1)] [(Value.slice none 0 0), (Value.int IntKind.i64 0)]),
  (108, .sc (Value.nilFunc)),
  (109, .sc ((Value.pointer none))),
  (110, .sc (Value.nilFunc)),
  (111, .sl2 23 .int),
  (112, .sc (Value.nilFunc)),
  (113, .sc (Value.nilFunc)),
  (114, .sc (Value.nilFunc)),
  (115, .sc (Value.nilFunc)),
  (116, .sc (Value.nilFunc)),
  (117, .sc ((Value.pointer none))),
  (119, .sc (Value.nilFunc)),
  (120, .sc (Value.nilFunc)),
  (121, .sc (Value.nilFunc)),
  (122, .st [(0, 1), (1, 1), (2, 1), (3, 1)] [(Value.pointer none), (Value.pointer none), (Value.pointer none), (Value.string (ByteArray.mk #[]))]),
  (123, .st [(0, 1), (1, 1), (2, 1), (3, 1)] [(Value.pointer none), (Value.pointer none), (Value.pointer none), (Value.string (ByteArray.mk #[]))]),
  (125, .st [(0, 0)] []),
  (126, .st [(0, 0)] []),
  (127, .sc (Value.nilFunc)),
  (128, .sc ((Value.int IntKind.u32 0))),
  (129, .sc ((Value.int IntKind.u8 0))),
  (130, .sc ((Value.int IntKind.u8 0))),
  (131, .sc (Value.nilFunc)),
  (132, .sc ((Value.pointer none))),
  (133, .sc ((Value.int IntKind.i32 0))),
  (134, .sc ((Value.int IntKind.i32 0))),
  (135, .st [(0, 1), (1, 1), (2, 1), (3, 1), (4, 1), (5, 1), (6, 1), (7, 1), (8, 1), (9, 1), (10, 1)] [(Value.int IntKind.u64 0), (Value.int IntKind.u64 0), (Value.int IntKind.u32 0), (Value.int IntKind.u8 0), (Value.int IntKind.u8 0), (Value.int IntKind.u8 0), (Value.int IntKind.u8 0), Value.nilFunc, (Value.pointer none), (Value.int IntKind.i32 0), (Value.int IntKind.i32 0)]),
  (136, .st [(0, 1), (1, 1), (2, 1), (3, 1), (4, 1), (5, 1), (6, 1), (7, 1), (8, 1), (9, 1), (10, 1)] [(Value.int IntKind.u64 0), (Value.int IntKind.u64 0), (Value.int IntKind.u32 0), (Value.int IntKind.u8 0), (Value.int IntKind.u8 0), (Value.int IntKind.u8 0), (Value.int IntKind.u8 0), Value.nilFunc, (Value.pointer none), (Value.int IntKind.i32 0), (Value.int IntKind.i32 0)]),
  (137, .sc ((Value.pointer none))),
  (1000097, .eq 97 [.int, .int, .int]),
  (1000098, .eq 98 [.int, .int, .int])]
theorem tab1 : InfOK Try.prog 1 (.sc (Value.nilFunc)) := ⟨Try.t1, (TypeDesc.func #[] #[] false), by kernel_rfl, by kernel_rfl, by kernel_rfl, by kernel_rfl, by kernel_rfl, by kernel_rfl, by first | kernel_rfl | trivial⟩
theorem tab2 : InfOK Try.prog 2 (.sc ((Value.int IntKind.i64 0))) := ⟨Try.t2, (TypeDesc.int IntKind.i64), by kernel_rfl, by kernel_rfl, by kernel_rfl, by kernel_rfl, by kernel_rfl, by kernel_rfl, by first | kernel_rfl | trivial⟩
theorem tab3 : InfOK Try.prog 3 (.sc ((Value.int IntKind.i64 0))) := ⟨Try.t3, (TypeDesc.int IntKind.i64), by kernel_rfl, by kernel_rfl, by kernel_rfl, by kernel_rfl, by kernel_rfl, by kernel_rfl, by first | kernel_rfl | trivial⟩
theorem tab4 : InfOK Try.prog 4 (.sc ((Value.bool false))) := ⟨Try.t4, TypeDesc.bool, by kernel_rfl, by kernel_rfl, by kernel_rfl, by kernel_rfl, by kernel_rfl, by kernel_rfl, by first | kernel_rfl | trivial⟩
theorem tab5 : InfOK Try.prog 5 (.sc ((Value.int IntKind.u8 0))) := ⟨Try.t5, (TypeDesc.int IntKind.u8), by kernel_rfl, by kernel_rfl, by kernel_rfl, by kernel_rfl, by kernel_rfl, by kernel_rfl, by first | kernel_rfl | trivial⟩
theorem tab6 : InfOK Try.prog 6 (.sc ((Value.int IntKind.u8 0))) := ⟨Try.t6, (TypeDesc.int IntKind.u8), by kernel_rfl, by kernel_rfl, by kernel_rfl, by kernel_rfl, by kernel_rfl, by kernel_rfl, by first | kernel_rfl | trivial⟩
theorem tab7 : InfOK Try.prog 7 (.st [(0, 1), (1, 1), (2, 1), (3, 1)] [(Value.int IntKind.i64 0), (Value.int IntKind.i64 0), (Value.bool false), (Value.int IntKind.u8 0)]) := ⟨Try.t7, #[(Field.mk "x" 2 0 false "" "runtime" 0), (Field.mk "y" 3 1 false "" "runtime" 8), (Field.mk "signed" 4 2 false "" "runtime" 16), (Field.mk "code" 6 3 false "" "runtime" 17)], by kernel_rfl, by kernel_rfl, by kernel_rfl, by kernel_rfl, by kernel_rfl, by kernel_rfl, fun n f h => by
    match n with
    | 0 => injection h with h; subst h; exact ⟨Try.t2, by kernel_rfl, by kernel_rfl, _, Try.underlying2, fun _ => rfl⟩
    | 1 => injection h with h; subst h; exact ⟨Try.t3, by kernel_rfl, by kernel_rfl, _, Try.underlying3, fun _ => rfl⟩
    | 2 => injection h with h; subst h; exact ⟨Try.t4, by kernel_rfl, by kernel_rfl, _, Try.underlying4, fun _ => rfl⟩
    | 3 => injection h with h; subst h; exact ⟨Try.t6, by kernel_rfl, by kernel_rfl, _, Try.underlying6, fun _ => rfl⟩
    | n + 4 => simp at h⟩
theorem tab8 : InfOK Try.prog 8 (.st [(0, 1), (1, 1), (2, 1), (3, 1)] [(Value.int IntKind.i64 0), (Value.int IntKind.i64 0), (Value.bool false), (Value.int IntKind.u8 0)]) := ⟨Try.t8, #[(Field.mk "x" 2 0 false "" "runtime" 0), (Field.mk "y" 3 1 false "" "runtime" 8), (Field.mk "signed" 4 2 false "" "runtime" 16), (Field.mk "code" 6 3 false "" "runtime" 17)], by kernel_rfl, by kernel_rfl, by kernel_rfl, by kernel_rfl, by kernel_rfl, by kernel_rfl, fun n f h => by
    match n with
    | 0 => injection h with h; subst h; exact ⟨Try.t2, by kernel_rfl, by kernel_rfl, _, Try.underlying2, fun _ => rfl⟩
    | 1 => injection h with h; subst h; exact ⟨Try.t3, by kernel_rfl, by kernel_rfl, _, Try.underlying3, fun _ => rfl⟩
    | 2 => injection h with h; subst h; exact ⟨Try.t4, by kernel_rfl, by kernel_rfl, _, Try.underlying4, fun _ => rfl⟩
    | 3 => injection h with h; subst h; exact ⟨Try.t6, by kernel_rfl, by kernel_rfl, _, Try.underlying6, fun _ => rfl⟩
    | n + 4 => simp at h⟩
theorem tab9 : InfOK Try.prog 9 (.sc ((Value.string (ByteArray.mk #[])))) := ⟨Try.t9, TypeDesc.string, by kernel_rfl, by kernel_rfl, by kernel_rfl, by kernel_rfl, by kernel_rfl, by kernel_rfl, by first | kernel_rfl | trivial⟩
theorem tab10 : InfOK Try.prog 10 (.sc ((Value.string (ByteArray.mk #[])))) := ⟨Try.t10, TypeDesc.string, by kernel_rfl, by kernel_rfl, by kernel_rfl, by kernel_rfl, by kernel_rfl, by kernel_rfl, by first | kernel_rfl | trivial⟩
theorem tab11 : InfOK Try.prog 11 (.sc ((Value.string (ByteArray.mk #[])))) := ⟨Try.t11, TypeDesc.string, by kernel_rfl, by kernel_rfl, by kernel_rfl, by kernel_rfl, by kernel_rfl, by kernel_rfl, by first | kernel_rfl | trivial⟩
theorem tab12 : InfOK Try.prog 12 (.sc ((Value.int IntKind.u64 0))) := ⟨Try.t12, (TypeDesc.int IntKind.u64), by kernel_rfl, by kernel_rfl, by kernel_rfl, by kernel_rfl, by kernel_rfl, by kernel_rfl, by first | kernel_rfl | trivial⟩
theorem tab13 : InfOK Try.prog 13 (.st [(0, 1), (1, 1)] [(Value.string (ByteArray.mk #[])), (Value.int IntKind.u64 0)]) := ⟨Try.t13, #[(Field.mk "msg" 9 0 false "" "runtime" 0), (Field.mk "addr" 12 1 false "" "runtime" 16)], by kernel_rfl, by kernel_rfl, by kernel_rfl, by kernel_rfl, by kernel_rfl, by kernel_rfl, fun n f h => by
    match n with
    | 0 => injection h with h; subst h; exact ⟨Try.t9, by kernel_rfl, by kernel_rfl, _, Try.underlying9, fun _ => rfl⟩
    | 1 => injection h with h; subst h; exact ⟨Try.t12, by kernel_rfl, by kernel_rfl, _, Try.underlying12, fun _ => rfl⟩
    | n + 2 => simp at h⟩
theorem tab14 : InfOK Try.prog 14 (.st [(0, 1), (1, 1)] [(Value.string (ByteArray.mk #[])), (Value.int IntKind.u64 0)]) := ⟨Try.t14, #[(Field.mk "msg" 9 0 false "" "runtime" 0), (Field.mk "addr" 12 1 false "" "runtime" 16)], by kernel_rfl, by kernel_rfl, by kernel_rfl, by kernel_rfl, by kernel_rfl, by kernel_rfl, fun n f h => by
    match n with
    | 0 => injection h with h; subst h; exact ⟨Try.t9, by kernel_rfl, by kernel_rfl, _, Try.underlying9, fun _ => rfl⟩
    | 1 => injection h with h; subst h; exact ⟨Try.t12, by kernel_rfl, by kernel_rfl, _, Try.underlying12, fun _ => rfl⟩
    | n + 2 => simp at h⟩
theorem tab15 : InfOK Try.prog 15 (.sc ((Value.pointer none))) := ⟨Try.t15, (TypeDesc.pointer 123), by kernel_rfl, by kernel_rfl, by kernel_rfl, by kernel_rfl, by kernel_rfl, by kernel_rfl, by first | kernel_rfl | trivial⟩
theorem tab16 : InfOK Try.prog 16 (.sc ((Value.pointer none))) := ⟨Try.t16, (TypeDesc.pointer 126), by kernel_rfl, by kernel_rfl, by kernel_rfl, by kernel_rfl, by kernel_rfl, by kernel_rfl, by first | kernel_rfl | trivial⟩
theorem tab17 : InfOK Try.prog 17 (.sc ((Value.pointer none))) := ⟨Try.t17, (TypeDesc.pointer 136), by kernel_rfl, by kernel_rfl, by kernel_rfl, by kernel_rfl, by kernel_rfl, by kernel_rfl, by first | kernel_rfl | trivial⟩
theorem tab18 : InfOK Try.prog 18 (.st [(0, 1)] [(Value.pointer none)]) := ⟨Try.t18, #[(Field.mk "typ" 17 0 false "" "internal/runtime/maps" 0)], by kernel_rfl, by kernel_rfl, by kernel_rfl, by kernel_rfl, by kernel_rfl, by kernel_rfl, fun n f h => by
    match n with
    | 0 => injection h with h; subst h; exact ⟨Try.t17, by kernel_rfl, by kernel_rfl, _, Try.underlying17, fun _ => rfl⟩
    | n + 1 => simp at h⟩
theorem tab19 : InfOK Try.prog 19 (.st [(0, 1)] [(Value.pointer none)]) := ⟨Try.t19, #[(Field.mk "typ" 17 0 false "" "internal/runtime/maps" 0)], by kernel_rfl, by kernel_rfl, by kernel_rfl, by kernel_rfl, by kernel_rfl, by kernel_rfl, fun n f h => by
    match n with
    | 0 => injection h with h; subst h; exact ⟨Try.t17, by kernel_rfl, by kernel_rfl, _, Try.underlying17, fun _ => rfl⟩
    | n + 1 => simp at h⟩
theorem tab20 : InfOK Try.prog 20 (.sc (Value.nilIface)) := ⟨Try.t20, (TypeDesc.interface #[]), by kernel_rfl, by kernel_rfl, by kernel_rfl, by kernel_rfl, by kernel_rfl, by kernel_rfl, by first | kernel_rfl | trivial⟩
theorem tab21 : InfOK Try.prog 21 (.sc ((Value.int IntKind.i32 0))) := ⟨Try.t21, (TypeDesc.int IntKind.i32), by kernel_rfl, by kernel_rfl, by kernel_rfl, by kernel_rfl, by kernel_rfl, by kernel_rfl, by first | kernel_rfl | trivial⟩
theorem tab22 : InfOK Try.prog 22 (.sl 5 .u8) := ⟨Try.t5, by kernel_rfl, by kernel_rfl, by kernel_rfl, ⟨(Value.int IntKind.u8 0), by kernel_rfl, by kernel_rfl⟩, by decide, by decide, Try.t22, by kernel_rfl, by kernel_rfl, by kernel_rfl⟩
theorem tab23 : InfOK Try.prog 23 (.sl 3 .int) := ⟨Try.t3, by kernel_rfl, by kernel_rfl, by kernel_rfl, ⟨(Value.int IntKind.i64 0), by kernel_rfl, by kernel_rfl⟩, by decide, by decide, Try.t23, by kernel_rfl, by kernel_rfl, by kernel_rfl⟩
theorem tab25 : InfOK Try.prog 25 (.sc (Value.nilFunc)) := ⟨Try.t25, (TypeDesc.func #[22] #[23, 3] false), by kernel_rfl, by kernel_rfl, by kernel_rfl, by kernel_rfl, by kernel_rfl, by kernel_rfl, by first | kernel_rfl | trivial⟩
theorem tab26 : InfOK Try.prog 26 (.sc (Value.nilFunc)) := ⟨Try.t26, (TypeDesc.func #[23, 3] #[3] false), by kernel_rfl, by kernel_rfl, by kernel_rfl, by kernel_rfl, by kernel_rfl, by kernel_rfl, by first | kernel_rfl | trivial⟩
theorem tab27 : InfOK Try.prog 27 (.sc (Value.nilFunc)) := ⟨Try.t27, (TypeDesc.func #[23, 3] #[23, 3] false), by kernel_rfl, by kernel_rfl, by kernel_rfl, by kernel_rfl, by kernel_rfl, by kernel_rfl, by first | kernel_rfl | trivial⟩
theorem tab28 : InfOK Try.prog 28 (.sl 4 .bool) := ⟨Try.t4, by kernel_rfl, by kernel_rfl, by kernel_rfl, ⟨(Value.bool false), by kernel_rfl, by kernel_rfl⟩, by decide, by decide, Try.t28, by kernel_rfl, by kernel_rfl, by kernel_rfl⟩
theorem tab29 : InfOK Try.prog 29 (.st [(0, 1), (1, 1), (2, 1), (3, 1)] [(Value.int IntKind.i64 0), (Value.slice none 0 0), (Value.slice none 0 0), (Value.int IntKind.i64 0)]) := ⟨Try.t29, #[(Field.mk "Room" 3 0 false "" "" 0), (Field.mk "Keys" 23 1 false "" "" 8), (Field.mk "Used" 28 2 false "" "" 32), (Field.mk "Hand" 3 3 false "" "" 56)], by kernel_rfl, by kernel_rfl, by kernel_rfl, by kernel_rfl, by kernel_rfl, by kernel_rfl, fun n f h => by
    match n with
    | 0 => injection h with h; subst h; exact ⟨Try.t3, by kernel_rfl, by kernel_rfl, _, Try.underlying3, fun _ => rfl⟩
    | 1 => injection h with h; subst h; exact ⟨Try.t23, by kernel_rfl, by kernel_rfl, _, Try.underlying23, fun _ => rfl⟩
    | 2 => injection h with h; subst h; exact ⟨Try.t28, by kernel_rfl, by kernel_rfl, _, Try.underlying28, fun _ => rfl⟩
    | 3 => injection h with h; subst h; exact ⟨Try.t3, by kernel_rfl, by kernel_rfl, _, Try.underlying3, fun _ => rfl⟩
    | n + 4 => simp at h⟩
theorem tab30 : InfOK Try.prog 30 (.st [(0, 1), (1, 1), (2, 1), (3, 1)] [(Value.int IntKind.i64 0), (Value.slice none 0 0), (Value.slice none 0 0), (Value.int IntKind.i64 0)]) := ⟨Try.t30, #[(Field.mk "Room" 3 0 false "" "" 0), (Field.mk "Keys" 23 1 false "" "" 8), (Field.mk "Used" 28 2 false "" "" 32), (Field.mk "Hand" 3 3 false "" "" 56)], by kernel_rfl, by kernel_rfl, by kernel_rfl, by kernel_rfl, by kernel_rfl, by kernel_rfl, fun n f h => by
    match n with
    | 0 => injection h with h; subst h; exact ⟨Try.t3, by kernel_rfl, by kernel_rfl, _, Try.underlying3, fun _ => rfl⟩
    | 1 => injection h with h; subst h; exact ⟨Try.t23, by kernel_rfl, by kernel_rfl, _, Try.underlying23, fun _ => rfl⟩
    | 2 => injection h with h; subst h; exact ⟨Try.t28, by kernel_rfl, by kernel_rfl, _, Try.underlying28, fun _ => rfl⟩
    | 3 => injection h with h; subst h; exact ⟨Try.t3, by kernel_rfl, by kernel_rfl, _, Try.underlying3, fun _ => rfl⟩
    | n + 4 => simp at h⟩
theorem tab32 : InfOK Try.prog 32 (.sc (Value.nilFunc)) := ⟨Try.t32, (TypeDesc.func #[23, 3] #[30, 3] false), by kernel_rfl, by kernel_rfl, by kernel_rfl, by kernel_rfl, by kernel_rfl, by kernel_rfl, by first | kernel_rfl | trivial⟩
theorem tab33 : InfOK Try.prog 33 (.sl 98 .iii) := ⟨Try.t98, by kernel_rfl, by kernel_rfl, by kernel_rfl, ⟨(Value.agg #[(Value.int IntKind.i64 0), (Value.int IntKind.i64 0), (Value.int IntKind.i64 0)]), by kernel_rfl, by kernel_rfl⟩, by decide, by decide, Try.t33, by kernel_rfl, by kernel_rfl, by kernel_rfl⟩
theorem tab35 : InfOK Try.prog 35 (.sc (Value.nilFunc)) := ⟨Try.t35, (TypeDesc.func #[23, 3] #[33, 3] false), by kernel_rfl, by kernel_rfl, by kernel_rfl, by kernel_rfl, by kernel_rfl, by kernel_rfl, by first | kernel_rfl | trivial⟩
theorem tab36 : InfOK Try.prog 36 (.st [(0, 1), (1, 1), (2, 1), (3, 1), (4, 1), (5, 1)] [(Value.int IntKind.i64 0), (Value.int IntKind.i64 0), (Value.slice none 0 0), (Value.slice none 0 0), (Value.slice none 0 0), (Value.slice none 0 0)]) := ⟨Try.t36, #[(Field.mk "Room" 3 0 false "" "" 0), (Field.mk "Target" 3 1 false "" "" 8), (Field.mk "Once" 23 2 false "" "" 16), (Field.mk "Often" 23 3 false "" "" 40), (Field.mk "WasOnce" 23 4 false "" "" 64), (Field.mk "WasOften" 23 5 false "" "" 88)], by kernel_rfl, by kernel_rfl, by kernel_rfl, by kernel_rfl, by kernel_rfl, by kernel_rfl, fun n f h => by
    match n with
    | 0 => injection h with h; subst h; exact ⟨Try.t3, by kernel_rfl, by kernel_rfl, _, Try.underlying3, fun _ => rfl⟩
    | 1 => injection h with h; subst h; exact ⟨Try.t3, by kernel_rfl, by kernel_rfl, _, Try.underlying3, fun _ => rfl⟩
    | 2 => injection h with h; subst h; exact ⟨Try.t23, by kernel_rfl, by kernel_rfl, _, Try.underlying23, fun _ => rfl⟩
    | 3 => injection h with h; subst h; exact ⟨Try.t23, by kernel_rfl, by kernel_rfl, _, Try.underlying23, fun _ => rfl⟩
    | 4 => injection h with h; subst h; exact ⟨Try.t23, by kernel_rfl, by kernel_rfl, _, Try.underlying23, fun _ => rfl⟩
    | 5 => injection h with h; subst h; exact ⟨Try.t23, by kernel_rfl, by kernel_rfl, _, Try.underlying23, fun _ => rfl⟩
    | n + 6 => simp at h⟩
theorem tab37 : InfOK Try.prog 37 (.st [(0, 1), (1, 1), (2, 1), (3, 1), (4, 1), (5, 1)] [(Value.int IntKind.i64 0), (Value.int IntKind.i64 0), (Value.slice none 0 0), (Value.slice none 0 0), (Value.slice none 0 0), (Value.slice none 0 0)]) := ⟨Try.t37, #[(Field.mk "Room" 3 0 false "" "" 0), (Field.mk "Target" 3 1 false "" "" 8), (Field.mk "Once" 23 2 false "" "" 16), (Field.mk "Often" 23 3 false "" "" 40), (Field.mk "WasOnce" 23 4 false "" "" 64), (Field.mk "WasOften" 23 5 false "" "" 88)], by kernel_rfl, by kernel_rfl, by kernel_rfl, by kernel_rfl, by kernel_rfl, by kernel_rfl, fun n f h => by
    match n with
    | 0 => injection h with h; subst h; exact ⟨Try.t3, by kernel_rfl, by kernel_rfl, _, Try.underlying3, fun _ => rfl⟩
    | 1 => injection h with h; subst h; exact ⟨Try.t3, by kernel_rfl, by kernel_rfl, _, Try.underlying3, fun _ => rfl⟩
    | 2 => injection h with h; subst h; exact ⟨Try.t23, by kernel_rfl, by kernel_rfl, _, Try.underlying23, fun _ => rfl⟩
    | 3 => injection h with h; subst h; exact ⟨Try.t23, by kernel_rfl, by kernel_rfl, _, Try.underlying23, fun _ => rfl⟩
    | 4 => injection h with h; subst h; exact ⟨Try.t23, by kernel_rfl, by kernel_rfl, _, Try.underlying23, fun _ => rfl⟩
    | 5 => injection h with h; subst h; exact ⟨Try.t23, by kernel_rfl, by kernel_rfl, _, Try.underlying23, fun _ => rfl⟩
    | n + 6 => simp at h⟩
theorem tab39 : InfOK Try.prog 39 (.sc (Value.nilFunc)) := ⟨Try.t39, (TypeDesc.func #[23, 3] #[37, 3] false), by kernel_rfl, by kernel_rfl, by kernel_rfl, by kernel_rfl, by kernel_rfl, by kernel_rfl, by first | kernel_rfl | trivial⟩
theorem tab40 : InfOK Try.prog 40 (.sc (Value.nilFunc)) := ⟨Try.t40, (TypeDesc.func #[22] #[4] false), by kernel_rfl, by kernel_rfl, by kernel_rfl, by kernel_rfl, by kernel_rfl, by kernel_rfl, by first | kernel_rfl | trivial⟩
theorem tab41 : InfOK Try.prog 41 (.st [(0, 1), (1, 1), (2, 1), (3, 1), (4, 1), (5, 1)] [(Value.int IntKind.i64 0), (Value.int IntKind.i64 0), (Value.slice none 0 0), (Value.slice none 0 0), (Value.slice none 0 0), (Value.int IntKind.i64 0)]) := ⟨Try.t41, #[(Field.mk "Window" 3 0 false "" "" 0), (Field.mk "Room" 3 1 false "" "" 8), (Field.mk "New" 23 2 false "" "" 16), (Field.mk "Main" 23 3 false "" "" 40), (Field.mk "Sketch" 23 4 false "" "" 64), (Field.mk "Added" 3 5 false "" "" 88)], by kernel_rfl, by kernel_rfl, by kernel_rfl, by kernel_rfl, by kernel_rfl, by kernel_rfl, fun n f h => by
    match n with
    | 0 => injection h with h; subst h; exact ⟨Try.t3, by kernel_rfl, by kernel_rfl, _, Try.underlying3, fun _ => rfl⟩
    | 1 => injection h with h; subst h; exact ⟨Try.t3, by kernel_rfl, by kernel_rfl, _, Try.underlying3, fun _ => rfl⟩
    | 2 => injection h with h; subst h; exact ⟨Try.t23, by kernel_rfl, by kernel_rfl, _, Try.underlying23, fun _ => rfl⟩
    | 3 => injection h with h; subst h; exact ⟨Try.t23, by kernel_rfl, by kernel_rfl, _, Try.underlying23, fun _ => rfl⟩
    | 4 => injection h with h; subst h; exact ⟨Try.t23, by kernel_rfl, by kernel_rfl, _, Try.underlying23, fun _ => rfl⟩
    | 5 => injection h with h; subst h; exact ⟨Try.t3, by kernel_rfl, by kernel_rfl, _, Try.underlying3, fun _ => rfl⟩
    | n + 6 => simp at h⟩
theorem tab42 : InfOK Try.prog 42 (.st [(0, 1), (1, 1), (2, 1), (3, 1), (4, 1), (5, 1)] [(Value.int IntKind.i64 0), (Value.int IntKind.i64 0), (Value.slice none 0 0), (Value.slice none 0 0), (Value.slice none 0 0), (Value.int IntKind.i64 0)]) := ⟨Try.t42, #[(Field.mk "Window" 3 0 false "" "" 0), (Field.mk "Room" 3 1 false "" "" 8), (Field.mk "New" 23 2 false "" "" 16), (Field.mk "Main" 23 3 false "" "" 40), (Field.mk "Sketch" 23 4 false "" "" 64), (Field.mk "Added" 3 5 false "" "" 88)], by kernel_rfl, by kernel_rfl, by kernel_rfl, by kernel_rfl, by kernel_rfl, by kernel_rfl, fun n f h => by
    match n with
    | 0 => injection h with h; subst h; exact ⟨Try.t3, by kernel_rfl, by kernel_rfl, _, Try.underlying3, fun _ => rfl⟩
    | 1 => injection h with h; subst h; exact ⟨Try.t3, by kernel_rfl, by kernel_rfl, _, Try.underlying3, fun _ => rfl⟩
    | 2 => injection h with h; subst h; exact ⟨Try.t23, by kernel_rfl, by kernel_rfl, _, Try.underlying23, fun _ => rfl⟩
    | 3 => injection h with h; subst h; exact ⟨Try.t23, by kernel_rfl, by kernel_rfl, _, Try.underlying23, fun _ => rfl⟩
    | 4 => injection h with h; subst h; exact ⟨Try.t23, by kernel_rfl, by kernel_rfl, _, Try.underlying23, fun _ => rfl⟩
    | 5 => injection h with h; subst h; exact ⟨Try.t3, by kernel_rfl, by kernel_rfl, _, Try.underlying3, fun _ => rfl⟩
    | n + 6 => simp at h⟩
theorem tab44 : InfOK Try.prog 44 (.sc (Value.nilFunc)) := ⟨Try.t44, (TypeDesc.func #[22] #[42, 3] false), by kernel_rfl, by kernel_rfl, by kernel_rfl, by kernel_rfl, by kernel_rfl, by kernel_rfl, by first | kernel_rfl | trivial⟩
theorem tab46 : InfOK Try.prog 46 (.sc (Value.nilFunc)) := ⟨Try.t46, (TypeDesc.func #[42, 3] #[42, 4] false), by kernel_rfl, by kernel_rfl, by kernel_rfl, by kernel_rfl, by kernel_rfl, by kernel_rfl, by first | kernel_rfl | trivial⟩
theorem tab47 : InfOK Try.prog 47 (.sc (Value.nilFunc)) := ⟨Try.t47, (TypeDesc.func #[42, 42] #[4] false), by kernel_rfl, by kernel_rfl, by kernel_rfl, by kernel_rfl, by kernel_rfl, by kernel_rfl, by first | kernel_rfl | trivial⟩
theorem tab48 : InfOK Try.prog 48 (.sc (Value.nilFunc)) := ⟨Try.t48, (TypeDesc.func #[42] #[4] false), by kernel_rfl, by kernel_rfl, by kernel_rfl, by kernel_rfl, by kernel_rfl, by kernel_rfl, by first | kernel_rfl | trivial⟩
theorem tab49 : InfOK Try.prog 49 (.sc (Value.nilFunc)) := ⟨Try.t49, (TypeDesc.func #[23, 3] #[4] false), by kernel_rfl, by kernel_rfl, by kernel_rfl, by kernel_rfl, by kernel_rfl, by kernel_rfl, by first | kernel_rfl | trivial⟩
theorem tab50 : InfOK Try.prog 50 (.sc (Value.nilFunc)) := ⟨Try.t50, (TypeDesc.func #[23, 3] #[23] false), by kernel_rfl, by kernel_rfl, by kernel_rfl, by kernel_rfl, by kernel_rfl, by kernel_rfl, by first | kernel_rfl | trivial⟩
theorem tab51 : InfOK Try.prog 51 (.sc (Value.nilFunc)) := ⟨Try.t51, (TypeDesc.func #[23, 23] #[4] false), by kernel_rfl, by kernel_rfl, by kernel_rfl, by kernel_rfl, by kernel_rfl, by kernel_rfl, by first | kernel_rfl | trivial⟩
theorem tab52 : InfOK Try.prog 52 (.sc (Value.nilFunc)) := ⟨Try.t52, (TypeDesc.func #[23] #[23] false), by kernel_rfl, by kernel_rfl, by kernel_rfl, by kernel_rfl, by kernel_rfl, by kernel_rfl, by first | kernel_rfl | trivial⟩
theorem tab53 : InfOK Try.prog 53 (.sc (Value.nilFunc)) := ⟨Try.t53, (TypeDesc.func #[23, 3, 3] #[4] false), by kernel_rfl, by kernel_rfl, by kernel_rfl, by kernel_rfl, by kernel_rfl, by kernel_rfl, by first | kernel_rfl | trivial⟩
theorem tab55 : InfOK Try.prog 55 (.sc (Value.nilFunc)) := ⟨Try.t55, (TypeDesc.func #[22] #[23, 3, 3] false), by kernel_rfl, by kernel_rfl, by kernel_rfl, by kernel_rfl, by kernel_rfl, by kernel_rfl, by first | kernel_rfl | trivial⟩
theorem tab56 : InfOK Try.prog 56 (.sc (Value.nilFunc)) := ⟨Try.t56, (TypeDesc.func #[23, 3, 3] #[42, 3] false), by kernel_rfl, by kernel_rfl, by kernel_rfl, by kernel_rfl, by kernel_rfl, by kernel_rfl, by first | kernel_rfl | trivial⟩
theorem tab57 : InfOK Try.prog 57 (.sc (Value.nilFunc)) := ⟨Try.t57, (TypeDesc.func #[23] #[3] false), by kernel_rfl, by kernel_rfl, by kernel_rfl, by kernel_rfl, by kernel_rfl, by kernel_rfl, by first | kernel_rfl | trivial⟩
theorem tab58 : InfOK Try.prog 58 (.st [(0, 1), (1, 1), (2, 1), (3, 1), (4, 1), (5, 1)] [(Value.int IntKind.i64 0), (Value.int IntKind.i64 0), (Value.slice none 0 0), (Value.slice none 0 0), (Value.slice none 0 0), (Value.int IntKind.i64 0)]) := ⟨Try.t58, #[(Field.mk "Window" 3 0 false "" "" 0), (Field.mk "Room" 3 1 false "" "" 8), (Field.mk "New" 23 2 false "" "" 16), (Field.mk "Main" 23 3 false "" "" 40), (Field.mk "Sketch" 23 4 false "" "" 64), (Field.mk "Added" 3 5 false "" "" 88)], by kernel_rfl, by kernel_rfl, by kernel_rfl, by kernel_rfl, by kernel_rfl, by kernel_rfl, fun n f h => by
    match n with
    | 0 => injection h with h; subst h; exact ⟨Try.t3, by kernel_rfl, by kernel_rfl, _, Try.underlying3, fun _ => rfl⟩
    | 1 => injection h with h; subst h; exact ⟨Try.t3, by kernel_rfl, by kernel_rfl, _, Try.underlying3, fun _ => rfl⟩
    | 2 => injection h with h; subst h; exact ⟨Try.t23, by kernel_rfl, by kernel_rfl, _, Try.underlying23, fun _ => rfl⟩
    | 3 => injection h with h; subst h; exact ⟨Try.t23, by kernel_rfl, by kernel_rfl, _, Try.underlying23, fun _ => rfl⟩
    | 4 => injection h with h; subst h; exact ⟨Try.t23, by kernel_rfl, by kernel_rfl, _, Try.underlying23, fun _ => rfl⟩
    | 5 => injection h with h; subst h; exact ⟨Try.t3, by kernel_rfl, by kernel_rfl, _, Try.underlying3, fun _ => rfl⟩
    | n + 6 => simp at h⟩
theorem tab59 : InfOK Try.prog 59 (.sc (Value.nilFunc)) := ⟨Try.t59, (TypeDesc.func #[58, 3] #[3] false), by kernel_rfl, by kernel_rfl, by kernel_rfl, by kernel_rfl, by kernel_rfl, by kernel_rfl, by first | kernel_rfl | trivial⟩
theorem tab60 : InfOK Try.prog 60 (.sc (Value.nilFunc)) := ⟨Try.t60, (TypeDesc.func #[58] #[42] false), by kernel_rfl, by kernel_rfl, by kernel_rfl, by kernel_rfl, by kernel_rfl, by kernel_rfl, by first | kernel_rfl | trivial⟩
theorem tab61 : InfOK Try.prog 61 (.sc (Value.nilFunc)) := ⟨Try.t61, (TypeDesc.func #[42, 3] #[3] false), by kernel_rfl, by kernel_rfl, by kernel_rfl, by kernel_rfl, by kernel_rfl, by kernel_rfl, by first | kernel_rfl | trivial⟩
theorem tab62 : InfOK Try.prog 62 (.sc (Value.nilFunc)) := ⟨Try.t62, (TypeDesc.func #[58, 3] #[4] false), by kernel_rfl, by kernel_rfl, by kernel_rfl, by kernel_rfl, by kernel_rfl, by kernel_rfl, by first | kernel_rfl | trivial⟩
theorem tab63 : InfOK Try.prog 63 (.sc (Value.nilFunc)) := ⟨Try.t63, (TypeDesc.func #[23] #[4] false), by kernel_rfl, by kernel_rfl, by kernel_rfl, by kernel_rfl, by kernel_rfl, by kernel_rfl, by first | kernel_rfl | trivial⟩
theorem tab64 : InfOK Try.prog 64 (.sc (Value.nilFunc)) := ⟨Try.t64, (TypeDesc.func #[3] #[4] false), by kernel_rfl, by kernel_rfl, by kernel_rfl, by kernel_rfl, by kernel_rfl, by kernel_rfl, by first | kernel_rfl | trivial⟩
theorem tab65 : InfOK Try.prog 65 (.sc (Value.nilFunc)) := ⟨Try.t65, (TypeDesc.func #[23, 3, 23] #[3] false), by kernel_rfl, by kernel_rfl, by kernel_rfl, by kernel_rfl, by kernel_rfl, by kernel_rfl, by first | kernel_rfl | trivial⟩
theorem tab66 : InfOK Try.prog 66 (.sc (Value.nilFunc)) := ⟨Try.t66, (TypeDesc.func #[3, 3, 3] #[4] false), by kernel_rfl, by kernel_rfl, by kernel_rfl, by kernel_rfl, by kernel_rfl, by kernel_rfl, by first | kernel_rfl | trivial⟩
theorem tab67 : InfOK Try.prog 67 (.sc (Value.nilFunc)) := ⟨Try.t67, (TypeDesc.func #[23, 3, 68] #[23, 3] false), by kernel_rfl, by kernel_rfl, by kernel_rfl, by kernel_rfl, by kernel_rfl, by kernel_rfl, by first | kernel_rfl | trivial⟩
theorem tab68 : InfOK Try.prog 68 (.sc (Value.nilFunc)) := ⟨Try.t68, (TypeDesc.func #[23, 3, 3] #[23, 4] false), by kernel_rfl, by kernel_rfl, by kernel_rfl, by kernel_rfl, by kernel_rfl, by kernel_rfl, by first | kernel_rfl | trivial⟩
theorem tab69 : InfOK Try.prog 69 (.sc (Value.nilFunc)) := ⟨Try.t69, (TypeDesc.func #[23, 30, 70] #[30, 3] false), by kernel_rfl, by kernel_rfl, by kernel_rfl, by kernel_rfl, by kernel_rfl, by kernel_rfl, by first | kernel_rfl | trivial⟩
theorem tab70 : InfOK Try.prog 70 (.sc (Value.nilFunc)) := ⟨Try.t70, (TypeDesc.func #[30, 3] #[30, 4] false), by kernel_rfl, by kernel_rfl, by kernel_rfl, by kernel_rfl, by kernel_rfl, by kernel_rfl, by first | kernel_rfl | trivial⟩
theorem tab71 : InfOK Try.prog 71 (.sc (Value.nilFunc)) := ⟨Try.t71, (TypeDesc.func #[23, 33, 74] #[33, 3] false), by kernel_rfl, by kernel_rfl, by kernel_rfl, by kernel_rfl, by kernel_rfl, by kernel_rfl, by first | kernel_rfl | trivial⟩
theorem tab73 : InfOK Try.prog 73 (.sc (Value.nilFunc)) := ⟨Try.t73, (TypeDesc.func #[33, 3, 3, 3] #[33, 4] false), by kernel_rfl, by kernel_rfl, by kernel_rfl, by kernel_rfl, by kernel_rfl, by kernel_rfl, by first | kernel_rfl | trivial⟩
theorem tab74 : InfOK Try.prog 74 (.sc (Value.nilFunc)) := ⟨Try.t74, (TypeDesc.func #[33, 3] #[33, 4] false), by kernel_rfl, by kernel_rfl, by kernel_rfl, by kernel_rfl, by kernel_rfl, by kernel_rfl, by first | kernel_rfl | trivial⟩
theorem tab75 : InfOK Try.prog 75 (.sc (Value.nilFunc)) := ⟨Try.t75, (TypeDesc.func #[23, 37, 76] #[37, 3] false), by kernel_rfl, by kernel_rfl, by kernel_rfl, by kernel_rfl, by kernel_rfl, by kernel_rfl, by first | kernel_rfl | trivial⟩
theorem tab76 : InfOK Try.prog 76 (.sc (Value.nilFunc)) := ⟨Try.t76, (TypeDesc.func #[37, 3] #[37, 4] false), by kernel_rfl, by kernel_rfl, by kernel_rfl, by kernel_rfl, by kernel_rfl, by kernel_rfl, by first | kernel_rfl | trivial⟩
theorem tab77 : InfOK Try.prog 77 (.sc ((Value.pointer none))) := ⟨Try.t77, (TypeDesc.pointer 107), by kernel_rfl, by kernel_rfl, by kernel_rfl, by kernel_rfl, by kernel_rfl, by kernel_rfl, by first | kernel_rfl | trivial⟩
theorem tab78 : InfOK Try.prog 78 (.sc (Value.nilFunc)) := ⟨Try.t78, (TypeDesc.func #[22] #[77] false), by kernel_rfl, by kernel_rfl, by kernel_rfl, by kernel_rfl, by kernel_rfl, by kernel_rfl, by first | kernel_rfl | trivial⟩
theorem tab79 : InfOK Try.prog 79 (.sc (Value.nilFunc)) := ⟨Try.t79, (TypeDesc.func #[77] #[42] false), by kernel_rfl, by kernel_rfl, by kernel_rfl, by kernel_rfl, by kernel_rfl, by kernel_rfl, by first | kernel_rfl | trivial⟩
theorem tab80 : InfOK Try.prog 80 (.sc (Value.nilFunc)) := ⟨Try.t80, (TypeDesc.func #[77] #[3] false), by kernel_rfl, by kernel_rfl, by kernel_rfl, by kernel_rfl, by kernel_rfl, by kernel_rfl, by first | kernel_rfl | trivial⟩
theorem tab81 : InfOK Try.prog 81 (.sc (Value.nilFunc)) := ⟨Try.t81, (TypeDesc.func #[3] #[] false), by kernel_rfl, by kernel_rfl, by kernel_rfl, by kernel_rfl, by kernel_rfl, by kernel_rfl, by first | kernel_rfl | trivial⟩
theorem tab82 : InfOK Try.prog 82 (.sc (Value.nilFunc)) := ⟨Try.t82, (TypeDesc.func #[42] #[42] false), by kernel_rfl, by kernel_rfl, by kernel_rfl, by kernel_rfl, by kernel_rfl, by kernel_rfl, by first | kernel_rfl | trivial⟩
theorem tab83 : InfOK Try.prog 83 (.sc (Value.nilFunc)) := ⟨Try.t83, (TypeDesc.func #[111] #[23] true), by kernel_rfl, by kernel_rfl, by kernel_rfl, by kernel_rfl, by kernel_rfl, by kernel_rfl, by first | kernel_rfl | trivial⟩
theorem tab84 : InfOK Try.prog 84 (.sc (Value.nilFunc)) := ⟨Try.t84, (TypeDesc.func #[3, 3] #[3] false), by kernel_rfl, by kernel_rfl, by kernel_rfl, by kernel_rfl, by kernel_rfl, by kernel_rfl, by first | kernel_rfl | trivial⟩
theorem tab85 : InfOK Try.prog 85 (.sc (Value.nilFunc)) := ⟨Try.t85, (TypeDesc.func #[23, 42, 46] #[42, 3] false), by kernel_rfl, by kernel_rfl, by kernel_rfl, by kernel_rfl, by kernel_rfl, by kernel_rfl, by first | kernel_rfl | trivial⟩
theorem tab86 : InfOK Try.prog 86 (.sc (Value.nilFunc)) := ⟨Try.t86, (TypeDesc.func #[] #[23] false), by kernel_rfl, by kernel_rfl, by kernel_rfl, by kernel_rfl, by kernel_rfl, by kernel_rfl, by first | kernel_rfl | trivial⟩
theorem tab87 : InfOK Try.prog 87 (.sc (Value.nilFunc)) := ⟨Try.t87, (TypeDesc.func #[4] #[3] false), by kernel_rfl, by kernel_rfl, by kernel_rfl, by kernel_rfl, by kernel_rfl, by kernel_rfl, by first | kernel_rfl | trivial⟩
theorem tab88 : InfOK Try.prog 88 (.sc (Value.nilFunc)) := ⟨Try.t88, (TypeDesc.func #[77] #[23] false), by kernel_rfl, by kernel_rfl, by kernel_rfl, by kernel_rfl, by kernel_rfl, by kernel_rfl, by first | kernel_rfl | trivial⟩
theorem tab89 : InfOK Try.prog 89 (.sc (Value.nilFunc)) := ⟨Try.t89, (TypeDesc.func #[23, 3, 3] #[3] false), by kernel_rfl, by kernel_rfl, by kernel_rfl, by kernel_rfl, by kernel_rfl, by kernel_rfl, by first | kernel_rfl | trivial⟩
theorem tab90 : InfOK Try.prog 90 (.sc (Value.nilFunc)) := ⟨Try.t90, (TypeDesc.func #[23, 23, 92] #[23, 3] false), by kernel_rfl, by kernel_rfl, by kernel_rfl, by kernel_rfl, by kernel_rfl, by kernel_rfl, by first | kernel_rfl | trivial⟩
theorem tab92 : InfOK Try.prog 92 (.sc (Value.nilFunc)) := ⟨Try.t92, (TypeDesc.func #[23, 3] #[23, 4] false), by kernel_rfl, by kernel_rfl, by kernel_rfl, by kernel_rfl, by kernel_rfl, by kernel_rfl, by first | kernel_rfl | trivial⟩
theorem tab94 : InfOK Try.prog 94 (.sc (Value.nilFunc)) := ⟨Try.t94, (TypeDesc.func #[30] #[4] false), by kernel_rfl, by kernel_rfl, by kernel_rfl, by kernel_rfl, by kernel_rfl, by kernel_rfl, by first | kernel_rfl | trivial⟩
theorem tab95 : InfOK Try.prog 95 (.sc (Value.nilFunc)) := ⟨Try.t95, (TypeDesc.func #[30] #[3] false), by kernel_rfl, by kernel_rfl, by kernel_rfl, by kernel_rfl, by kernel_rfl, by kernel_rfl, by first | kernel_rfl | trivial⟩
theorem tab96 : InfOK Try.prog 96 (.sc (Value.nilFunc)) := ⟨Try.t96, (TypeDesc.func #[33, 3] #[4] false), by kernel_rfl, by kernel_rfl, by kernel_rfl, by kernel_rfl, by kernel_rfl, by kernel_rfl, by first | kernel_rfl | trivial⟩
theorem tab97 : InfOK Try.prog 97 (.st [(0, 1), (1, 1), (2, 1)] [(Value.int IntKind.i64 0), (Value.int IntKind.i64 0), (Value.int IntKind.i64 0)]) := ⟨Try.t97, #[(Field.mk "Key" 3 0 false "" "" 0), (Field.mk "Count" 3 1 false "" "" 8), (Field.mk "Last" 3 2 false "" "" 16)], by kernel_rfl, by kernel_rfl, by kernel_rfl, by kernel_rfl, by kernel_rfl, by kernel_rfl, fun n f h => by
    match n with
    | 0 => injection h with h; subst h; exact ⟨Try.t3, by kernel_rfl, by kernel_rfl, _, Try.underlying3, fun _ => rfl⟩
    | 1 => injection h with h; subst h; exact ⟨Try.t3, by kernel_rfl, by kernel_rfl, _, Try.underlying3, fun _ => rfl⟩
    | 2 => injection h with h; subst h; exact ⟨Try.t3, by kernel_rfl, by kernel_rfl, _, Try.underlying3, fun _ => rfl⟩
    | n + 3 => simp at h⟩
theorem tab98 : InfOK Try.prog 98 (.st [(0, 1), (1, 1), (2, 1)] [(Value.int IntKind.i64 0), (Value.int IntKind.i64 0), (Value.int IntKind.i64 0)]) := ⟨Try.t98, #[(Field.mk "Key" 3 0 false "" "" 0), (Field.mk "Count" 3 1 false "" "" 8), (Field.mk "Last" 3 2 false "" "" 16)], by kernel_rfl, by kernel_rfl, by kernel_rfl, by kernel_rfl, by kernel_rfl, by kernel_rfl, fun n f h => by
    match n with
    | 0 => injection h with h; subst h; exact ⟨Try.t3, by kernel_rfl, by kernel_rfl, _, Try.underlying3, fun _ => rfl⟩
    | 1 => injection h with h; subst h; exact ⟨Try.t3, by kernel_rfl, by kernel_rfl, _, Try.underlying3, fun _ => rfl⟩
    | 2 => injection h with h; subst h; exact ⟨Try.t3, by kernel_rfl, by kernel_rfl, _, Try.underlying3, fun _ => rfl⟩
    | n + 3 => simp at h⟩
theorem tab99 : InfOK Try.prog 99 (.sc (Value.nilFunc)) := ⟨Try.t99, (TypeDesc.func #[33, 98] #[3] false), by kernel_rfl, by kernel_rfl, by kernel_rfl, by kernel_rfl, by kernel_rfl, by kernel_rfl, by first | kernel_rfl | trivial⟩
theorem tab100 : InfOK Try.prog 100 (.sc (Value.nilFunc)) := ⟨Try.t100, (TypeDesc.func #[33] #[98] false), by kernel_rfl, by kernel_rfl, by kernel_rfl, by kernel_rfl, by kernel_rfl, by kernel_rfl, by first | kernel_rfl | trivial⟩
theorem tab101 : InfOK Try.prog 101 (.sc (Value.nilFunc)) := ⟨Try.t101, (TypeDesc.func #[33, 3, 3] #[33] false), by kernel_rfl, by kernel_rfl, by kernel_rfl, by kernel_rfl, by kernel_rfl, by kernel_rfl, by first | kernel_rfl | trivial⟩
theorem tab103 : InfOK Try.prog 103 (.sc (Value.nilFunc)) := ⟨Try.t103, (TypeDesc.func #[37] #[4] false), by kernel_rfl, by kernel_rfl, by kernel_rfl, by kernel_rfl, by kernel_rfl, by kernel_rfl, by first | kernel_rfl | trivial⟩
theorem tab104 : InfOK Try.prog 104 (.sc (Value.nilFunc)) := ⟨Try.t104, (TypeDesc.func #[37, 3] #[3] false), by kernel_rfl, by kernel_rfl, by kernel_rfl, by kernel_rfl, by kernel_rfl, by kernel_rfl, by first | kernel_rfl | trivial⟩
theorem tab105 : InfOK Try.prog 105 (.sc (Value.nilFunc)) := ⟨Try.t105, (TypeDesc.func #[4] #[] false), by kernel_rfl, by kernel_rfl, by kernel_rfl, by kernel_rfl, by kernel_rfl, by kernel_rfl, by first | kernel_rfl | trivial⟩
theorem tab106 : InfOK Try.prog 106 (.st [(0, 1), (1, 1)] [(Value.slice none 0 0), (Value.int IntKind.i64 0)]) := ⟨Try.t106, #[(Field.mk "b" 22 0 false "" "loop.example/cacheengine/spec" 0), (Field.mk "p" 3 1 false "" "loop.example/cacheengine/spec" 24)], by kernel_rfl, by kernel_rfl, by kernel_rfl, by kernel_rfl, by kernel_rfl, by kernel_rfl, fun n f h => by
    match n with
    | 0 => injection h with h; subst h; exact ⟨Try.t22, by kernel_rfl, by kernel_rfl, _, Try.underlying22, fun _ => rfl⟩
    | 1 => injection h with h; subst h; exact ⟨Try.t3, by kernel_rfl, by kernel_rfl, _, Try.underlying3, fun _ => rfl⟩
    | n + 2 => simp at h⟩
theorem tab107 : InfOK Try.prog 107 (.st [(0, 1), (1, 1)] [(Value.slice none 0 0), (Value.int IntKind.i64 0)]) := ⟨Try.t107, #[(Field.mk "b" 22 0 false "" "loop.example/cacheengine/spec" 0), (Field.mk "p" 3 1 false "" "loop.example/cacheengine/spec" 24)], by kernel_rfl, by kernel_rfl, by kernel_rfl, by kernel_rfl, by kernel_rfl, by kernel_rfl, fun n f h => by
    match n with
    | 0 => injection h with h; subst h; exact ⟨Try.t22, by kernel_rfl, by kernel_rfl, _, Try.underlying22, fun _ => rfl⟩
    | 1 => injection h with h; subst h; exact ⟨Try.t3, by kernel_rfl, by kernel_rfl, _, Try.underlying3, fun _ => rfl⟩
    | n + 2 => simp at h⟩
theorem tab108 : InfOK Try.prog 108 (.sc (Value.nilFunc)) := ⟨Try.t108, (TypeDesc.func #[3] #[3] false), by kernel_rfl, by kernel_rfl, by kernel_rfl, by kernel_rfl, by kernel_rfl, by kernel_rfl, by first | kernel_rfl | trivial⟩
theorem tab109 : InfOK Try.prog 109 (.sc ((Value.pointer none))) := ⟨Try.t109, (TypeDesc.pointer 42), by kernel_rfl, by kernel_rfl, by kernel_rfl, by kernel_rfl, by kernel_rfl, by kernel_rfl, by first | kernel_rfl | trivial⟩
theorem tab110 : InfOK Try.prog 110 (.sc (Value.nilFunc)) := ⟨Try.t110, (TypeDesc.func #[42, 3] #[42] false), by kernel_rfl, by kernel_rfl, by kernel_rfl, by kernel_rfl, by kernel_rfl, by kernel_rfl, by first | kernel_rfl | trivial⟩
theorem tab111 : InfOK Try.prog 111 (.sl2 23 .int) := ⟨Try.t23, by kernel_rfl, by kernel_rfl, by kernel_rfl, by kernel_rfl, ⟨3, Try.t3, by kernel_rfl, by kernel_rfl, by kernel_rfl⟩, Try.t111, by kernel_rfl, by kernel_rfl, by kernel_rfl⟩
theorem tab112 : InfOK Try.prog 112 (.sc (Value.nilFunc)) := ⟨Try.t112, (TypeDesc.func #[98] #[4] false), by kernel_rfl, by kernel_rfl, by kernel_rfl, by kernel_rfl, by kernel_rfl, by kernel_rfl, by first | kernel_rfl | trivial⟩
theorem tab113 : InfOK Try.prog 113 (.sc (Value.nilFunc)) := ⟨Try.t113, (TypeDesc.func #[33, 112] #[4] false), by kernel_rfl, by kernel_rfl, by kernel_rfl, by kernel_rfl, by kernel_rfl, by kernel_rfl, by first | kernel_rfl | trivial⟩
theorem tab114 : InfOK Try.prog 114 (.sc (Value.nilFunc)) := ⟨Try.t114, (TypeDesc.func #[33, 116] #[98] false), by kernel_rfl, by kernel_rfl, by kernel_rfl, by kernel_rfl, by kernel_rfl, by kernel_rfl, by first | kernel_rfl | trivial⟩
theorem tab115 : InfOK Try.prog 115 (.sc (Value.nilFunc)) := ⟨Try.t115, (TypeDesc.func #[23] #[3] true), by kernel_rfl, by kernel_rfl, by kernel_rfl, by kernel_rfl, by kernel_rfl, by kernel_rfl, by first | kernel_rfl | trivial⟩
theorem tab116 : InfOK Try.prog 116 (.sc (Value.nilFunc)) := ⟨Try.t116, (TypeDesc.func #[98, 98] #[3] false), by kernel_rfl, by kernel_rfl, by kernel_rfl, by kernel_rfl, by kernel_rfl, by kernel_rfl, by first | kernel_rfl | trivial⟩
theorem tab117 : InfOK Try.prog 117 (.sc ((Value.pointer none))) := ⟨Try.t117, (TypeDesc.pointer 37), by kernel_rfl, by kernel_rfl, by kernel_rfl, by kernel_rfl, by kernel_rfl, by kernel_rfl, by first | kernel_rfl | trivial⟩
theorem tab119 : InfOK Try.prog 119 (.sc (Value.nilFunc)) := ⟨Try.t119, (TypeDesc.func #[23, 23] #[23, 23] false), by kernel_rfl, by kernel_rfl, by kernel_rfl, by kernel_rfl, by kernel_rfl, by kernel_rfl, by first | kernel_rfl | trivial⟩
theorem tab120 : InfOK Try.prog 120 (.sc (Value.nilFunc)) := ⟨Try.t120, (TypeDesc.func #[33, 112] #[3] false), by kernel_rfl, by kernel_rfl, by kernel_rfl, by kernel_rfl, by kernel_rfl, by kernel_rfl, by first | kernel_rfl | trivial⟩
theorem tab121 : InfOK Try.prog 121 (.sc (Value.nilFunc)) := ⟨Try.t121, (TypeDesc.func #[] #[9] false), by kernel_rfl, by kernel_rfl, by kernel_rfl, by kernel_rfl, by kernel_rfl, by kernel_rfl, by first | kernel_rfl | trivial⟩
theorem tab122 : InfOK Try.prog 122 (.st [(0, 1), (1, 1), (2, 1), (3, 1)] [(Value.pointer none), (Value.pointer none), (Value.pointer none), (Value.string (ByteArray.mk #[]))]) := ⟨Try.t122, #[(Field.mk "_interface" 17 0 false "" "runtime" 0), (Field.mk "concrete" 17 1 false "" "runtime" 8), (Field.mk "asserted" 17 2 false "" "runtime" 16), (Field.mk "missingMethod" 9 3 false "" "runtime" 24)], by kernel_rfl, by kernel_rfl, by kernel_rfl, by kernel_rfl, by kernel_rfl, by kernel_rfl, fun n f h => by
    match n with
    | 0 => injection h with h; subst h; exact ⟨Try.t17, by kernel_rfl, by kernel_rfl, _, Try.underlying17, fun _ => rfl⟩
    | 1 => injection h with h; subst h; exact ⟨Try.t17, by kernel_rfl, by kernel_rfl, _, Try.underlying17, fun _ => rfl⟩
    | 2 => injection h with h; subst h; exact ⟨Try.t17, by kernel_rfl, by kernel_rfl, _, Try.underlying17, fun _ => rfl⟩
    | 3 => injection h with h; subst h; exact ⟨Try.t9, by kernel_rfl, by kernel_rfl, _, Try.underlying9, fun _ => rfl⟩
    | n + 4 => simp at h⟩
theorem tab123 : InfOK Try.prog 123 (.st [(0, 1), (1, 1), (2, 1), (3, 1)] [(Value.pointer none), (Value.pointer none), (Value.pointer none), (Value.string (ByteArray.mk #[]))]) := ⟨Try.t123, #[(Field.mk "_interface" 17 0 false "" "runtime" 0), (Field.mk "concrete" 17 1 false "" "runtime" 8), (Field.mk "asserted" 17 2 false "" "runtime" 16), (Field.mk "missingMethod" 9 3 false "" "runtime" 24)], by kernel_rfl, by kernel_rfl, by kernel_rfl, by kernel_rfl, by kernel_rfl, by kernel_rfl, fun n f h => by
    match n with
    | 0 => injection h with h; subst h; exact ⟨Try.t17, by kernel_rfl, by kernel_rfl, _, Try.underlying17, fun _ => rfl⟩
    | 1 => injection h with h; subst h; exact ⟨Try.t17, by kernel_rfl, by kernel_rfl, _, Try.underlying17, fun _ => rfl⟩
    | 2 => injection h with h; subst h; exact ⟨Try.t17, by kernel_rfl, by kernel_rfl, _, Try.underlying17, fun _ => rfl⟩
    | 3 => injection h with h; subst h; exact ⟨Try.t9, by kernel_rfl, by kernel_rfl, _, Try.underlying9, fun _ => rfl⟩
    | n + 4 => simp at h⟩
theorem tab125 : InfOK Try.prog 125 (.st [(0, 0)] []) := ⟨Try.t125, #[(Field.mk "_" 124 0 false "" "runtime" 0)], by kernel_rfl, by kernel_rfl, by kernel_rfl, by kernel_rfl, by kernel_rfl, by kernel_rfl, fun n f h => by
    match n with
    | 0 => injection h with h; subst h; exact ⟨Try.t124, by kernel_rfl, by kernel_rfl, _, Try.underlying124, fun h => absurd h (by decide)⟩
    | n + 1 => simp at h⟩
theorem tab126 : InfOK Try.prog 126 (.st [(0, 0)] []) := ⟨Try.t126, #[(Field.mk "_" 124 0 false "" "runtime" 0)], by kernel_rfl, by kernel_rfl, by kernel_rfl, by kernel_rfl, by kernel_rfl, by kernel_rfl, fun n f h => by
    match n with
    | 0 => injection h with h; subst h; exact ⟨Try.t124, by kernel_rfl, by kernel_rfl, _, Try.underlying124, fun h => absurd h (by decide)⟩
    | n + 1 => simp at h⟩
theorem tab127 : InfOK Try.prog 127 (.sc (Value.nilFunc)) := ⟨Try.t127, (TypeDesc.func #[] #[3] false), by kernel_rfl, by kernel_rfl, by kernel_rfl, by kernel_rfl, by kernel_rfl, by kernel_rfl, by first | kernel_rfl | trivial⟩
theorem tab128 : InfOK Try.prog 128 (.sc ((Value.int IntKind.u32 0))) := ⟨Try.t128, (TypeDesc.int IntKind.u32), by kernel_rfl, by kernel_rfl, by kernel_rfl, by kernel_rfl, by kernel_rfl, by kernel_rfl, by first | kernel_rfl | trivial⟩
theorem tab129 : InfOK Try.prog 129 (.sc ((Value.int IntKind.u8 0))) := ⟨Try.t129, (TypeDesc.int IntKind.u8), by kernel_rfl, by kernel_rfl, by kernel_rfl, by kernel_rfl, by kernel_rfl, by kernel_rfl, by first | kernel_rfl | trivial⟩
theorem tab130 : InfOK Try.prog 130 (.sc ((Value.int IntKind.u8 0))) := ⟨Try.t130, (TypeDesc.int IntKind.u8), by kernel_rfl, by kernel_rfl, by kernel_rfl, by kernel_rfl, by kernel_rfl, by kernel_rfl, by first | kernel_rfl | trivial⟩
theorem tab131 : InfOK Try.prog 131 (.sc (Value.nilFunc)) := ⟨Try.t131, (TypeDesc.func #[137, 137] #[4] false), by kernel_rfl, by kernel_rfl, by kernel_rfl, by kernel_rfl, by kernel_rfl, by kernel_rfl, by first | kernel_rfl | trivial⟩
theorem tab132 : InfOK Try.prog 132 (.sc ((Value.pointer none))) := ⟨Try.t132, (TypeDesc.pointer 5), by kernel_rfl, by kernel_rfl, by kernel_rfl, by kernel_rfl, by kernel_rfl, by kernel_rfl, by first | kernel_rfl | trivial⟩
theorem tab133 : InfOK Try.prog 133 (.sc ((Value.int IntKind.i32 0))) := ⟨Try.t133, (TypeDesc.int IntKind.i32), by kernel_rfl, by kernel_rfl, by kernel_rfl, by kernel_rfl, by kernel_rfl, by kernel_rfl, by first | kernel_rfl | trivial⟩
theorem tab134 : InfOK Try.prog 134 (.sc ((Value.int IntKind.i32 0))) := ⟨Try.t134, (TypeDesc.int IntKind.i32), by kernel_rfl, by kernel_rfl, by kernel_rfl, by kernel_rfl, by kernel_rfl, by kernel_rfl, by first | kernel_rfl | trivial⟩
theorem tab135 : InfOK Try.prog 135 (.st [(0, 1), (1, 1), (2, 1), (3, 1), (4, 1), (5, 1), (6, 1), (7, 1), (8, 1), (9, 1), (10, 1)] [(Value.int IntKind.u64 0), (Value.int IntKind.u64 0), (Value.int IntKind.u32 0), (Value.int IntKind.u8 0), (Value.int IntKind.u8 0), (Value.int IntKind.u8 0), (Value.int IntKind.u8 0), Value.nilFunc, (Value.pointer none), (Value.int IntKind.i32 0), (Value.int IntKind.i32 0)]) := ⟨Try.t135, #[(Field.mk "Size_" 12 0 false "" "" 0), (Field.mk "PtrBytes" 12 1 false "" "" 8), (Field.mk "Hash" 128 2 false "" "" 16), (Field.mk "TFlag" 129 3 false "" "" 20), (Field.mk "Align_" 5 4 false "" "" 21), (Field.mk "FieldAlign_" 5 5 false "" "" 22), (Field.mk "Kind_" 130 6 false "" "" 23), (Field.mk "Equal" 131 7 false "" "" 24), (Field.mk "GCData" 132 8 false "" "" 32), (Field.mk "Str" 133 9 false "" "" 40), (Field.mk "PtrToThis" 134 10 false "" "" 44)], by kernel_rfl, by kernel_rfl, by kernel_rfl, by kernel_rfl, by kernel_rfl, by kernel_rfl, fun n f h => by
    match n with
    | 0 => injection h with h; subst h; exact ⟨Try.t12, by kernel_rfl, by kernel_rfl, _, Try.underlying12, fun _ => rfl⟩
    | 1 => injection h with h; subst h; exact ⟨Try.t12, by kernel_rfl, by kernel_rfl, _, Try.underlying12, fun _ => rfl⟩
    | 2 => injection h with h; subst h; exact ⟨Try.t128, by kernel_rfl, by kernel_rfl, _, Try.underlying128, fun _ => rfl⟩
    | 3 => injection h with h; subst h; exact ⟨Try.t129, by kernel_rfl, by kernel_rfl, _, Try.underlying129, fun _ => rfl⟩
    | 4 => injection h with h; subst h; exact ⟨Try.t5, by kernel_rfl, by kernel_rfl, _, Try.underlying5, fun _ => rfl⟩
    | 5 => injection h with h; subst h; exact ⟨Try.t5, by kernel_rfl, by kernel_rfl, _, Try.underlying5, fun _ => rfl⟩
    | 6 => injection h with h; subst h; exact ⟨Try.t130, by kernel_rfl, by kernel_rfl, _, Try.underlying130, fun _ => rfl⟩
    | 7 => injection h with h; subst h; exact ⟨Try.t131, by kernel_rfl, by kernel_rfl, _, Try.underlying131, fun _ => rfl⟩
    | 8 => injection h with h; subst h; exact ⟨Try.t132, by kernel_rfl, by kernel_rfl, _, Try.underlying132, fun _ => rfl⟩
    | 9 => injection h with h; subst h; exact ⟨Try.t133, by kernel_rfl, by kernel_rfl, _, Try.underlying133, fun _ => rfl⟩
    | 10 => injection h with h; subst h; exact ⟨Try.t134, by kernel_rfl, by kernel_rfl, _, Try.underlying134, fun _ => rfl⟩
    | n + 11 => simp at h⟩
theorem tab136 : InfOK Try.prog 136 (.st [(0, 1), (1, 1), (2, 1), (3, 1), (4, 1), (5, 1), (6, 1), (7, 1), (8, 1), (9, 1), (10, 1)] [(Value.int IntKind.u64 0), (Value.int IntKind.u64 0), (Value.int IntKind.u32 0), (Value.int IntKind.u8 0), (Value.int IntKind.u8 0), (Value.int IntKind.u8 0), (Value.int IntKind.u8 0), Value.nilFunc, (Value.pointer none), (Value.int IntKind.i32 0), (Value.int IntKind.i32 0)]) := ⟨Try.t136, #[(Field.mk "Size_" 12 0 false "" "" 0), (Field.mk "PtrBytes" 12 1 false "" "" 8), (Field.mk "Hash" 128 2 false "" "" 16), (Field.mk "TFlag" 129 3 false "" "" 20), (Field.mk "Align_" 5 4 false "" "" 21), (Field.mk "FieldAlign_" 5 5 false "" "" 22), (Field.mk "Kind_" 130 6 false "" "" 23), (Field.mk "Equal" 131 7 false "" "" 24), (Field.mk "GCData" 132 8 false "" "" 32), (Field.mk "Str" 133 9 false "" "" 40), (Field.mk "PtrToThis" 134 10 false "" "" 44)], by kernel_rfl, by kernel_rfl, by kernel_rfl, by kernel_rfl, by kernel_rfl, by kernel_rfl, fun n f h => by
    match n with
    | 0 => injection h with h; subst h; exact ⟨Try.t12, by kernel_rfl, by kernel_rfl, _, Try.underlying12, fun _ => rfl⟩
    | 1 => injection h with h; subst h; exact ⟨Try.t12, by kernel_rfl, by kernel_rfl, _, Try.underlying12, fun _ => rfl⟩
    | 2 => injection h with h; subst h; exact ⟨Try.t128, by kernel_rfl, by kernel_rfl, _, Try.underlying128, fun _ => rfl⟩
    | 3 => injection h with h; subst h; exact ⟨Try.t129, by kernel_rfl, by kernel_rfl, _, Try.underlying129, fun _ => rfl⟩
    | 4 => injection h with h; subst h; exact ⟨Try.t5, by kernel_rfl, by kernel_rfl, _, Try.underlying5, fun _ => rfl⟩
    | 5 => injection h with h; subst h; exact ⟨Try.t5, by kernel_rfl, by kernel_rfl, _, Try.underlying5, fun _ => rfl⟩
    | 6 => injection h with h; subst h; exact ⟨Try.t130, by kernel_rfl, by kernel_rfl, _, Try.underlying130, fun _ => rfl⟩
    | 7 => injection h with h; subst h; exact ⟨Try.t131, by kernel_rfl, by kernel_rfl, _, Try.underlying131, fun _ => rfl⟩
    | 8 => injection h with h; subst h; exact ⟨Try.t132, by kernel_rfl, by kernel_rfl, _, Try.underlying132, fun _ => rfl⟩
    | 9 => injection h with h; subst h; exact ⟨Try.t133, by kernel_rfl, by kernel_rfl, _, Try.underlying133, fun _ => rfl⟩
    | 10 => injection h with h; subst h; exact ⟨Try.t134, by kernel_rfl, by kernel_rfl, _, Try.underlying134, fun _ => rfl⟩
    | n + 11 => simp at h⟩
theorem tab137 : InfOK Try.prog 137 (.sc ((Value.pointer none))) := ⟨Try.t137, TypeDesc.unsafePointer, by kernel_rfl, by kernel_rfl, by kernel_rfl, by kernel_rfl, by kernel_rfl, by kernel_rfl, by first | kernel_rfl | trivial⟩
theorem tab1000097 : InfOK Try.prog 1000097 (.eq 97 [.int, .int, .int]) := ⟨by kernel_rfl, by kernel_rfl, by kernel_rfl, by
    rw [show (Try.prog.fieldsOf 97).toList = [(Field.mk "Key" 3 0 false "" "" 0), (Field.mk "Count" 3 1 false "" "" 8), (Field.mk "Last" 3 2 false "" "" 16)] by kernel_rfl]
    exact ⟨by decide, rfl, .inl ⟨rfl, Try.underlying3⟩, by decide, rfl, .inl ⟨rfl, Try.underlying3⟩, by decide, rfl, .inl ⟨rfl, Try.underlying3⟩, trivial⟩⟩
theorem tab1000098 : InfOK Try.prog 1000098 (.eq 98 [.int, .int, .int]) := ⟨by kernel_rfl, by kernel_rfl, by kernel_rfl, by
    rw [show (Try.prog.fieldsOf 98).toList = [(Field.mk "Key" 3 0 false "" "" 0), (Field.mk "Count" 3 1 false "" "" 8), (Field.mk "Last" 3 2 false "" "" 16)] by kernel_rfl]
    exact ⟨by decide, rfl, .inl ⟨rfl, Try.underlying3⟩, by decide, rfl, .inl ⟨rfl, Try.underlying3⟩, by decide, rfl, .inl ⟨rfl, Try.underlying3⟩, trivial⟩⟩
theorem tabOK : TabOK Try.prog TT := tabOK_of ⟨tab1, tab2, tab3, tab4, tab5, tab6, tab7, tab8, tab9, tab10, tab11, tab12, tab13, tab14, tab15, tab16, tab17, tab18, tab19, tab20, tab21, tab22, tab23, tab25, tab26, tab27, tab28, tab29, tab30, tab32, tab33, tab35, tab36, tab37, tab39, tab40, tab41, tab42, tab44, tab46, tab47, tab48, tab49, tab50, tab51, tab52, tab53, tab55, tab56, tab57, tab58, tab59, tab60, tab61, tab62, tab63, tab64, tab65, tab66, tab67, tab68, tab69, tab70, tab71, tab73, tab74, tab75, tab76, tab77, tab78, tab79, tab80, tab81, tab82, tab83, tab84, tab85, tab86, tab87, tab88, tab89, tab90, tab92, tab94, tab95, tab96, tab97, tab98, tab99, tab100, tab101, tab103, tab104, tab105, tab106, tab107, tab108, tab109, tab110, tab111, tab112, tab113, tab114, tab115, tab116, tab117, tab119, tab120, tab121, tab122, tab123, tab125, tab126, tab127, tab128, tab129, tab130, tab131, tab132, tab133, tab134, tab135, tab136, tab137, tab1000097, tab1000098, trivial⟩
theorem mixed : Try.prog.follows .mixedOrders = true := by kernel_rfl
end Go.Ev
