/- The types of the program, as the evaluator wants them. No statement is proved here. -/
import Derived.Test.YtemhpncmhdcheaaEvT
import Derived.Test.YtemhpncmhdcheaaChecked
namespace Go.Ev
set_option linter.unusedVariables false
set_option linter.unusedSimpArgs false
open Go Go.Proofs
def TT : Tab := [(1, .sc (Value.nilFunc)),
  (2, .sc ((Value.int IntKind.i64 0))),
  (3, .sc ((Value.int IntKind.i64 0))),
  (4, .sc ((Value.bool false))),
  (5, .sc ((Value.int IntKind.u8 0))),
  (6, .sc ((Value.int IntKind.u8 0))),
  (7, .st [(0, 1), (1, 1), (2, 1), (3, 1)] [(Value.int IntKind.i64 0), (Value.int IntKind.i64 0), (Value.bool false), (Value.int IntKind.u8 0)]),
  (8, .st [(0, 1), (1, 1), (2, 1), (3, 1)] [(Value.int IntKind.i64 0), (Value.int IntKind.i64 0), (Value.bool false), (Value.int IntKind.u8 0)]),
  (9, .sc ((Value.string (ByteArray.mk #[])))),
  (10, .sc ((Value.string (ByteArray.mk #[])))),
  (11, .sc ((Value.string (ByteArray.mk #[])))),
  (12, .sc ((Value.int IntKind.u64 0))),
  (13, .st [(0, 1), (1, 1)] [(Value.string (ByteArray.mk #[])), (Value.int IntKind.u64 0)]),
  (14, .st [(0, 1), (1, 1)] [(Value.string (ByteArray.mk #[])), (Value.int IntKind.u64 0)]),
  (15, .sc ((Value.pointer none))),
  (16, .sc ((Value.pointer none))),
  (17, .sc ((Value.pointer none))),
  (18, .st [(0, 1)] [(Value.pointer none)]),
  (19, .st [(0, 1)] [(Value.pointer none)]),
  (20, .sc (Value.nilIface)),
  (21, .sc ((Value.int IntKind.i32 0))),
  (22, .sl 5 .u8),
  (23, .sl 3 .int),
  (25, .sc (Value.nilFunc)),
  (26, .sc (Value.nilFunc)),
  (27, .sc (Value.nilFunc)),
  (28, .sc (Value.nilFunc)),
  (29, .sc (Value.nilFunc)),
  (30, .sl 4 .bool),
  (31, .st [(0, 1), (1, 1), (2, 1), (3, 1)] [(Value.int IntKind.i64 0), (Value.slice none 0 0), (Value.slice none 0 0), (Value.int IntKind.i64 0)]),
  (32, .st [(0, 1), (1, 1), (2, 1), (3, 1)] [(Value.int IntKind.i64 0), (Value.slice none 0 0), (Value.slice none 0 0), (Value.int IntKind.i64 0)]),
  (34, .sc (Value.nilFunc)),
  (35, .sc (Value.nilFunc)),
  (36, .sc (Value.nilFunc)),
  (38, .sc (Value.nilFunc)),
  (39, .sc (Value.nilFunc)),
  (40, .sc (Value.nilFunc)),
  (41, .sc (Value.nilFunc)),
  (43, .sc (Value.nilFunc)),
  (45, .sc (Value.nilFunc)),
  (46, .sc (Value.nilFunc)),
  (47, .sc (Value.nilFunc)),
  (48, .sc (Value.nilFunc)),
  (49, .sc (Value.nilFunc)),
  (50, .sc (Value.nilFunc)),
  (51, .sc (Value.nilFunc)),
  (52, .sc (Value.nilFunc)),
  (53, .sc (Value.nilFunc)),
  (54, .sc (Value.nilFunc)),
  (56, .sc (Value.nilFunc)),
  (57, .sc ((Value.pointer none))),
  (58, .sc (Value.nilFunc)),
  (59, .sc (Value.nilFunc)),
  (60, .sc (Value.nilFunc)),
  (61, .sc (Value.nilFunc)),
  (62, .sc (Value.nilFunc)),
  (63, .sc (Value.nilFunc)),
  (64, .sc (Value.nilFunc)),
  (65, .sc (Value.nilFunc)),
  (66, .sc (Value.nilFunc)),
  (67, .sc (Value.nilFunc)),
  (68, .sc (Value.nilFunc)),
  (69, .sc (Value.nilFunc)),
  (70, .st [(0, 1), (1, 1)] [(Value.slice none 0 0), (Value.int IntKind.i64 0)]),
  (71, .st [(0, 1), (1, 1)] [(Value.slice none 0 0), (Value.int IntKind.i64 0)]),
  (72, .sc (Value.nilFunc)),
  (73, .sc (Value.nilFunc)),
  (74, .st [(0, 1), (1, 1), (2, 1), (3, 1)] [(Value.pointer none), (Value.pointer none), (Value.pointer none), (Value.string (ByteArray.mk #[]))]),
  (75, .st [(0, 1), (1, 1), (2, 1), (3, 1)] [(Value.pointer none), (Value.pointer none), (Value.pointer none), (Value.string (ByteArray.mk #[]))]),
  (77, .st [(0, 0)] []),
  (78, .st [(0, 0)] []),
  (79, .sc (Value.nilFunc)),
  (80, .sc ((Value.int IntKind.u32 0))),
  (81, .sc ((Value.int IntKind.u8 0))),
  (82, .sc ((Value.int IntKind.u8 0))),
  (83, .sc (Value.nilFunc)),
  (84, .sc ((Value.pointer none))),
  (85, .sc ((Value.int IntKind.i32 0))),
  (86, .sc ((Value.int IntKind.i32 0))),
  (87, .st [(0, 1), (1, 1), (2, 1), (3, 1), (4, 1), (5, 1), (6, 1), (7, 1), (8, 1), (9, 1), (10, 1)] [(Value.int IntKind.u64 0), (Value.int IntKind.u64 0), (Value.int IntKind.u32 0), (Value.int IntKind.u8 0), (Value.int IntKind.u8 0), (Value.int IntKind.u8 0), (Value.int IntKind.u8 0), Value.nilFunc, (Value.pointer none), (Value.int IntKind.i32 0), (Value.int IntKind.i32 0)]),
  (88, .st [(0, 1), (1, 1), (2, 1), (3, 1), (4, 1), (5, 1), (6, 1), (7, 1), (8, 1), (9, 1), (10, 1)] [(Value.int IntKind.u64 0), (Value.int IntKind.u64 0), (Value.int IntKind.u32 0), (Value.int IntKind.u8 0), (Value.int IntKind.u8 0), (Value.int IntKind.u8 0), (Value.int IntKind.u8 0), Value.nilFunc, (Value.pointer none), (Value.int IntKind.i32 0), (Value.int IntKind.i32 0)]),
  (89, .sc ((Value.pointer none)))]
theorem tab1 : InfOK Try.prog 1 (.sc (Value.nilFunc)) := ⟨Try.t1, (TypeDesc.func #[] #[] false), by kernel_rfl, by kernel_rfl, by kernel_rfl, by kernel_rfl, by kernel_rfl, by kernel_rfl, by first | kernel_rfl | trivial⟩
theorem tab2 : InfOK Try.prog 2 (.sc ((Value.int IntKind.i64 0))) := ⟨Try.t2, (TypeDesc.int IntKind.i64), by kernel_rfl, by kernel_rfl, by kernel_rfl, by kernel_rfl, by kernel_rfl, by kernel_rfl, by first | kernel_rfl | trivial⟩
theorem tab3 : InfOK Try.prog 3 (.sc ((Value.int IntKind.i64 0))) := ⟨Try.t3, (TypeDesc.int IntKind.i64), by kernel_rfl, by kernel_rfl, by kernel_rfl, by kernel_rfl, by kernel_rfl, by kernel_rfl, by first | kernel_rfl | trivial⟩
theorem tab4 : InfOK Try.prog 4 (.sc ((Value.bool false))) := ⟨Try.t4, TypeDesc.bool, by kernel_rfl, by kernel_rfl, by kernel_rfl, by kernel_rfl, by kernel_rfl, by kernel_rfl, by first | kernel_rfl | trivial⟩
theorem tab5 : InfOK Try.prog 5 (.sc ((Value.int IntKind.u8 0))) := ⟨Try.t5, (TypeDesc.int IntKind.u8), by kernel_rfl, by kernel_rfl, by kernel_rfl, by kernel_rfl, by kernel_rfl, by kernel_rfl, by first | kernel_rfl | trivial⟩
theorem tab6 : InfOK Try.prog 6 (.sc ((Value.int IntKind.u8 0))) := ⟨Try.t6, (TypeDesc.int IntKind.u8), by kernel_rfl, by kernel_rfl, by kernel_rfl, by kernel_rfl, by kernel_rfl, by kernel_rfl, by first | kernel_rfl | trivial⟩
theorem tab7 : InfOK Try.prog 7 (.st [(0, 1), (1, 1), (2, 1), (3, 1)] [(Value.int IntKind.i64 0), (Value.int IntKind.i64 0), (Value.bool false), (Value.int IntKind.u8 0)]) := ⟨Try.t7, #[(Field.mk "x" 2 0 false "" "runtime" 0), (Field.mk "y" 3 1 false "" "runtime" 8), (Field.mk "signed" 4 2 false "" "runtime" 16), (Field.mk "code" 6 3 false "" "runtime" 17)], by kernel_rfl, by kernel_rfl, by kernel_rfl, by kernel_rfl, by kernel_rfl, by kernel_rfl, fun n f h => by
    match n with
    | 0 => injection h with h; subst h; exact ⟨Try.t2, by kernel_rfl, by kernel_rfl, _, Try.underlying2, fun _ => rfl⟩
    | 1 => injection h with h; subst h; exact ⟨Try.t3, by kernel_rfl, by kernel_rfl, _, Try.underlying3, fun _ => rfl⟩
    | 2 => injection h with h; subst h; exact ⟨Try.t4, by kernel_rfl, by kernel_rfl, _, Try.underlying4, fun _ => rfl⟩
    | 3 => injection h with h; subst h; exact ⟨Try.t6, by kernel_rfl, by kernel_rfl, _, Try.underlying6, fun _ => rfl⟩
    | n + 4 => simp at h⟩
theorem tab8 : InfOK Try.prog 8 (.st [(0, 1), (1, 1), (2, 1), (3, 1)] [(Value.int IntKind.i64 0), (Value.int IntKind.i64 0), (Value.bool false), (Value.int IntKind.u8 0)]) := ⟨Try.t8, #[(Field.mk "x" 2 0 false "" "runtime" 0), (Field.mk "y" 3 1 false "" "runtime" 8), (Field.mk "signed" 4 2 false "" "runtime" 16), (Field.mk "code" 6 3 false "" "runtime" 17)], by kernel_rfl, by kernel_rfl, by kernel_rfl, by kernel_rfl, by kernel_rfl, by kernel_rfl, fun n f h => by
    match n with
    | 0 => injection h with h; subst h; exact ⟨Try.t2, by kernel_rfl, by kernel_rfl, _, Try.underlying2, fun _ => rfl⟩
    | 1 => injection h with h; subst h; exact ⟨Try.t3, by kernel_rfl, by kernel_rfl, _, Try.underlying3, fun _ => rfl⟩
    | 2 => injection h with h; subst h; exact ⟨Try.t4, by kernel_rfl, by kernel_rfl, _, Try.underlying4, fun _ => rfl⟩
    | 3 => injection h with h; subst h; exact ⟨Try.t6, by kernel_rfl, by kernel_rfl, _, Try.underlying6, fun _ => rfl⟩
    | n + 4 => simp at h⟩
theorem tab9 : InfOK Try.prog 9 (.sc ((Value.string (ByteArray.mk #[])))) := ⟨Try.t9, TypeDesc.string, by kernel_rfl, by kernel_rfl, by kernel_rfl, by kernel_rfl, by kernel_rfl, by kernel_rfl, by first | kernel_rfl | trivial⟩
theorem tab10 : InfOK Try.prog 10 (.sc ((Value.string (ByteArray.mk #[])))) := ⟨Try.t10, TypeDesc.string, by kernel_rfl, by kernel_rfl, by kernel_rfl, by kernel_rfl, by kernel_rfl, by kernel_rfl, by first | kernel_rfl | trivial⟩
theorem tab11 : InfOK Try.prog 11 (.sc ((Value.string (ByteArray.mk #[])))) := ⟨Try.t11, TypeDesc.string, by kernel_rfl, by kernel_rfl, by kernel_rfl, by kernel_rfl, by kernel_rfl, by kernel_rfl, by first | kernel_rfl | trivial⟩
theorem tab12 : InfOK Try.prog 12 (.sc ((Value.int IntKind.u64 0))) := ⟨Try.t12, (TypeDesc.int IntKind.u64), by kernel_rfl, by kernel_rfl, by kernel_rfl, by kernel_rfl, by kernel_rfl, by kernel_rfl, by first | kernel_rfl | trivial⟩
theorem tab13 : InfOK Try.prog 13 (.st [(0, 1), (1, 1)] [(Value.string (ByteArray.mk #[])), (Value.int IntKind.u64 0)]) := ⟨Try.t13, #[(Field.mk "msg" 9 0 false "" "runtime" 0), (Field.mk "addr" 12 1 false "" "runtime" 16)], by kernel_rfl, by kernel_rfl, by kernel_rfl, by kernel_rfl, by kernel_rfl, by kernel_rfl, fun n f h => by
    match n with
    | 0 => injection h with h; subst h; exact ⟨Try.t9, by kernel_rfl, by kernel_rfl, _, Try.underlying9, fun _ => rfl⟩
    | 1 => injection h with h; subst h; exact ⟨Try.t12, by kernel_rfl, by kernel_rfl, _, Try.underlying12, fun _ => rfl⟩
    | n + 2 => simp at h⟩
theorem tab14 : InfOK Try.prog 14 (.st [(0, 1), (1, 1)] [(Value.string (ByteArray.mk #[])), (Value.int IntKind.u64 0)]) := ⟨Try.t14, #[(Field.mk "msg" 9 0 false "" "runtime" 0), (Field.mk "addr" 12 1 false "" "runtime" 16)], by kernel_rfl, by kernel_rfl, by kernel_rfl, by kernel_rfl, by kernel_rfl, by kernel_rfl, fun n f h => by
    match n with
    | 0 => injection h with h; subst h; exact ⟨Try.t9, by kernel_rfl, by kernel_rfl, _, Try.underlying9, fun _ => rfl⟩
    | 1 => injection h with h; subst h; exact ⟨Try.t12, by kernel_rfl, by kernel_rfl, _, Try.underlying12, fun _ => rfl⟩
    | n + 2 => simp at h⟩
theorem tab15 : InfOK Try.prog 15 (.sc ((Value.pointer none))) := ⟨Try.t15, (TypeDesc.pointer 75), by kernel_rfl, by kernel_rfl, by kernel_rfl, by kernel_rfl, by kernel_rfl, by kernel_rfl, by first | kernel_rfl | trivial⟩
theorem tab16 : InfOK Try.prog 16 (.sc ((Value.pointer none))) := ⟨Try.t16, (TypeDesc.pointer 78), by kernel_rfl, by kernel_rfl, by kernel_rfl, by kernel_rfl, by kernel_rfl, by kernel_rfl, by first | kernel_rfl | trivial⟩
theorem tab17 : InfOK Try.prog 17 (.sc ((Value.pointer none))) := ⟨Try.t17, (TypeDesc.pointer 88), by kernel_rfl, by kernel_rfl, by kernel_rfl, by kernel_rfl, by kernel_rfl, by kernel_rfl, by first | kernel_rfl | trivial⟩
theorem tab18 : InfOK Try.prog 18 (.st [(0, 1)] [(Value.pointer none)]) := ⟨Try.t18, #[(Field.mk "typ" 17 0 false "" "internal/runtime/maps" 0)], by kernel_rfl, by kernel_rfl, by kernel_rfl, by kernel_rfl, by kernel_rfl, by kernel_rfl, fun n f h => by
    match n with
    | 0 => injection h with h; subst h; exact ⟨Try.t17, by kernel_rfl, by kernel_rfl, _, Try.underlying17, fun _ => rfl⟩
    | n + 1 => simp at h⟩
theorem tab19 : InfOK Try.prog 19 (.st [(0, 1)] [(Value.pointer none)]) := ⟨Try.t19, #[(Field.mk "typ" 17 0 false "" "internal/runtime/maps" 0)], by kernel_rfl, by kernel_rfl, by kernel_rfl, by kernel_rfl, by kernel_rfl, by kernel_rfl, fun n f h => by
    match n with
    | 0 => injection h with h; subst h; exact ⟨Try.t17, by kernel_rfl, by kernel_rfl, _, Try.underlying17, fun _ => rfl⟩
    | n + 1 => simp at h⟩
theorem tab20 : InfOK Try.prog 20 (.sc (Value.nilIface)) := ⟨Try.t20, (TypeDesc.interface #[]), by kernel_rfl, by kernel_rfl, by kernel_rfl, by kernel_rfl, by kernel_rfl, by kernel_rfl, by first | kernel_rfl | trivial⟩
theorem tab21 : InfOK Try.prog 21 (.sc ((Value.int IntKind.i32 0))) := ⟨Try.t21, (TypeDesc.int IntKind.i32), by kernel_rfl, by kernel_rfl, by kernel_rfl, by kernel_rfl, by kernel_rfl, by kernel_rfl, by first | kernel_rfl | trivial⟩
theorem tab22 : InfOK Try.prog 22 (.sl 5 .u8) := ⟨Try.t5, by kernel_rfl, by kernel_rfl, by kernel_rfl, ⟨(Value.int IntKind.u8 0), by kernel_rfl, by kernel_rfl⟩, by decide, by decide, Try.t22, by kernel_rfl, by kernel_rfl, by kernel_rfl⟩
theorem tab23 : InfOK Try.prog 23 (.sl 3 .int) := ⟨Try.t3, by kernel_rfl, by kernel_rfl, by kernel_rfl, ⟨(Value.int IntKind.i64 0), by kernel_rfl, by kernel_rfl⟩, by decide, by decide, Try.t23, by kernel_rfl, by kernel_rfl, by kernel_rfl⟩
theorem tab25 : InfOK Try.prog 25 (.sc (Value.nilFunc)) := ⟨Try.t25, (TypeDesc.func #[22] #[23, 3] false), by kernel_rfl, by kernel_rfl, by kernel_rfl, by kernel_rfl, by kernel_rfl, by kernel_rfl, by first | kernel_rfl | trivial⟩
theorem tab26 : InfOK Try.prog 26 (.sc (Value.nilFunc)) := ⟨Try.t26, (TypeDesc.func #[23, 3] #[23, 3] false), by kernel_rfl, by kernel_rfl, by kernel_rfl, by kernel_rfl, by kernel_rfl, by kernel_rfl, by first | kernel_rfl | trivial⟩
theorem tab27 : InfOK Try.prog 27 (.sc (Value.nilFunc)) := ⟨Try.t27, (TypeDesc.func #[23, 23] #[4] false), by kernel_rfl, by kernel_rfl, by kernel_rfl, by kernel_rfl, by kernel_rfl, by kernel_rfl, by first | kernel_rfl | trivial⟩
theorem tab28 : InfOK Try.prog 28 (.sc (Value.nilFunc)) := ⟨Try.t28, (TypeDesc.func #[3, 3] #[23] false), by kernel_rfl, by kernel_rfl, by kernel_rfl, by kernel_rfl, by kernel_rfl, by kernel_rfl, by first | kernel_rfl | trivial⟩
theorem tab29 : InfOK Try.prog 29 (.sc (Value.nilFunc)) := ⟨Try.t29, (TypeDesc.func #[22] #[4] false), by kernel_rfl, by kernel_rfl, by kernel_rfl, by kernel_rfl, by kernel_rfl, by kernel_rfl, by first | kernel_rfl | trivial⟩
theorem tab30 : InfOK Try.prog 30 (.sl 4 .bool) := ⟨Try.t4, by kernel_rfl, by kernel_rfl, by kernel_rfl, ⟨(Value.bool false), by kernel_rfl, by kernel_rfl⟩, by decide, by decide, Try.t30, by kernel_rfl, by kernel_rfl, by kernel_rfl⟩
theorem tab31 : InfOK Try.prog 31 (.st [(0, 1), (1, 1), (2, 1), (3, 1)] [(Value.int IntKind.i64 0), (Value.slice none 0 0), (Value.slice none 0 0), (Value.int IntKind.i64 0)]) := ⟨Try.t31, #[(Field.mk "Room" 3 0 false "" "" 0), (Field.mk "Keys" 23 1 false "" "" 8), (Field.mk "Used" 30 2 false "" "" 32), (Field.mk "Hand" 3 3 false "" "" 56)], by kernel_rfl, by kernel_rfl, by kernel_rfl, by kernel_rfl, by kernel_rfl, by kernel_rfl, fun n f h => by
    match n with
    | 0 => injection h with h; subst h; exact ⟨Try.t3, by kernel_rfl, by kernel_rfl, _, Try.underlying3, fun _ => rfl⟩
    | 1 => injection h with h; subst h; exact ⟨Try.t23, by kernel_rfl, by kernel_rfl, _, Try.underlying23, fun _ => rfl⟩
    | 2 => injection h with h; subst h; exact ⟨Try.t30, by kernel_rfl, by kernel_rfl, _, Try.underlying30, fun _ => rfl⟩
    | 3 => injection h with h; subst h; exact ⟨Try.t3, by kernel_rfl, by kernel_rfl, _, Try.underlying3, fun _ => rfl⟩
    | n + 4 => simp at h⟩
theorem tab32 : InfOK Try.prog 32 (.st [(0, 1), (1, 1), (2, 1), (3, 1)] [(Value.int IntKind.i64 0), (Value.slice none 0 0), (Value.slice none 0 0), (Value.int IntKind.i64 0)]) := ⟨Try.t32, #[(Field.mk "Room" 3 0 false "" "" 0), (Field.mk "Keys" 23 1 false "" "" 8), (Field.mk "Used" 30 2 false "" "" 32), (Field.mk "Hand" 3 3 false "" "" 56)], by kernel_rfl, by kernel_rfl, by kernel_rfl, by kernel_rfl, by kernel_rfl, by kernel_rfl, fun n f h => by
    match n with
    | 0 => injection h with h; subst h; exact ⟨Try.t3, by kernel_rfl, by kernel_rfl, _, Try.underlying3, fun _ => rfl⟩
    | 1 => injection h with h; subst h; exact ⟨Try.t23, by kernel_rfl, by kernel_rfl, _, Try.underlying23, fun _ => rfl⟩
    | 2 => injection h with h; subst h; exact ⟨Try.t30, by kernel_rfl, by kernel_rfl, _, Try.underlying30, fun _ => rfl⟩
    | 3 => injection h with h; subst h; exact ⟨Try.t3, by kernel_rfl, by kernel_rfl, _, Try.underlying3, fun _ => rfl⟩
    | n + 4 => simp at h⟩
theorem tab34 : InfOK Try.prog 34 (.sc (Value.nilFunc)) := ⟨Try.t34, (TypeDesc.func #[23, 3] #[32, 3] false), by kernel_rfl, by kernel_rfl, by kernel_rfl, by kernel_rfl, by kernel_rfl, by kernel_rfl, by first | kernel_rfl | trivial⟩
theorem tab35 : InfOK Try.prog 35 (.sc (Value.nilFunc)) := ⟨Try.t35, (TypeDesc.func #[32, 32] #[4] false), by kernel_rfl, by kernel_rfl, by kernel_rfl, by kernel_rfl, by kernel_rfl, by kernel_rfl, by first | kernel_rfl | trivial⟩
theorem tab36 : InfOK Try.prog 36 (.sc (Value.nilFunc)) := ⟨Try.t36, (TypeDesc.func #[23, 3] #[4] false), by kernel_rfl, by kernel_rfl, by kernel_rfl, by kernel_rfl, by kernel_rfl, by kernel_rfl, by first | kernel_rfl | trivial⟩
theorem tab38 : InfOK Try.prog 38 (.sc (Value.nilFunc)) := ⟨Try.t38, (TypeDesc.func #[22] #[3, 3] false), by kernel_rfl, by kernel_rfl, by kernel_rfl, by kernel_rfl, by kernel_rfl, by kernel_rfl, by first | kernel_rfl | trivial⟩
theorem tab39 : InfOK Try.prog 39 (.sc (Value.nilFunc)) := ⟨Try.t39, (TypeDesc.func #[23] #[4] false), by kernel_rfl, by kernel_rfl, by kernel_rfl, by kernel_rfl, by kernel_rfl, by kernel_rfl, by first | kernel_rfl | trivial⟩
theorem tab40 : InfOK Try.prog 40 (.sc (Value.nilFunc)) := ⟨Try.t40, (TypeDesc.func #[23] #[3] false), by kernel_rfl, by kernel_rfl, by kernel_rfl, by kernel_rfl, by kernel_rfl, by kernel_rfl, by first | kernel_rfl | trivial⟩
theorem tab41 : InfOK Try.prog 41 (.sc (Value.nilFunc)) := ⟨Try.t41, (TypeDesc.func #[23] #[23] false), by kernel_rfl, by kernel_rfl, by kernel_rfl, by kernel_rfl, by kernel_rfl, by kernel_rfl, by first | kernel_rfl | trivial⟩
theorem tab43 : InfOK Try.prog 43 (.sc (Value.nilFunc)) := ⟨Try.t43, (TypeDesc.func #[22] #[23, 23] false), by kernel_rfl, by kernel_rfl, by kernel_rfl, by kernel_rfl, by kernel_rfl, by kernel_rfl, by first | kernel_rfl | trivial⟩
theorem tab45 : InfOK Try.prog 45 (.sc (Value.nilFunc)) := ⟨Try.t45, (TypeDesc.func #[23, 23] #[23, 4] false), by kernel_rfl, by kernel_rfl, by kernel_rfl, by kernel_rfl, by kernel_rfl, by kernel_rfl, by first | kernel_rfl | trivial⟩
theorem tab46 : InfOK Try.prog 46 (.sc (Value.nilFunc)) := ⟨Try.t46, (TypeDesc.func #[23, 3] #[3] false), by kernel_rfl, by kernel_rfl, by kernel_rfl, by kernel_rfl, by kernel_rfl, by kernel_rfl, by first | kernel_rfl | trivial⟩
theorem tab47 : InfOK Try.prog 47 (.sc (Value.nilFunc)) := ⟨Try.t47, (TypeDesc.func #[3, 3] #[4] false), by kernel_rfl, by kernel_rfl, by kernel_rfl, by kernel_rfl, by kernel_rfl, by kernel_rfl, by first | kernel_rfl | trivial⟩
theorem tab48 : InfOK Try.prog 48 (.sc (Value.nilFunc)) := ⟨Try.t48, (TypeDesc.func #[23, 3, 49] #[23, 3] false), by kernel_rfl, by kernel_rfl, by kernel_rfl, by kernel_rfl, by kernel_rfl, by kernel_rfl, by first | kernel_rfl | trivial⟩
theorem tab49 : InfOK Try.prog 49 (.sc (Value.nilFunc)) := ⟨Try.t49, (TypeDesc.func #[23, 3, 3] #[23, 4] false), by kernel_rfl, by kernel_rfl, by kernel_rfl, by kernel_rfl, by kernel_rfl, by kernel_rfl, by first | kernel_rfl | trivial⟩
theorem tab50 : InfOK Try.prog 50 (.sc (Value.nilFunc)) := ⟨Try.t50, (TypeDesc.func #[3, 3, 3] #[4] false), by kernel_rfl, by kernel_rfl, by kernel_rfl, by kernel_rfl, by kernel_rfl, by kernel_rfl, by first | kernel_rfl | trivial⟩
theorem tab51 : InfOK Try.prog 51 (.sc (Value.nilFunc)) := ⟨Try.t51, (TypeDesc.func #[4] #[3] false), by kernel_rfl, by kernel_rfl, by kernel_rfl, by kernel_rfl, by kernel_rfl, by kernel_rfl, by first | kernel_rfl | trivial⟩
theorem tab52 : InfOK Try.prog 52 (.sc (Value.nilFunc)) := ⟨Try.t52, (TypeDesc.func #[3] #[4] false), by kernel_rfl, by kernel_rfl, by kernel_rfl, by kernel_rfl, by kernel_rfl, by kernel_rfl, by first | kernel_rfl | trivial⟩
theorem tab53 : InfOK Try.prog 53 (.sc (Value.nilFunc)) := ⟨Try.t53, (TypeDesc.func #[23, 32, 54] #[32, 3] false), by kernel_rfl, by kernel_rfl, by kernel_rfl, by kernel_rfl, by kernel_rfl, by kernel_rfl, by first | kernel_rfl | trivial⟩
theorem tab54 : InfOK Try.prog 54 (.sc (Value.nilFunc)) := ⟨Try.t54, (TypeDesc.func #[32, 3] #[32, 4] false), by kernel_rfl, by kernel_rfl, by kernel_rfl, by kernel_rfl, by kernel_rfl, by kernel_rfl, by first | kernel_rfl | trivial⟩
theorem tab56 : InfOK Try.prog 56 (.sc (Value.nilFunc)) := ⟨Try.t56, (TypeDesc.func #[30, 30] #[4] false), by kernel_rfl, by kernel_rfl, by kernel_rfl, by kernel_rfl, by kernel_rfl, by kernel_rfl, by first | kernel_rfl | trivial⟩
theorem tab57 : InfOK Try.prog 57 (.sc ((Value.pointer none))) := ⟨Try.t57, (TypeDesc.pointer 71), by kernel_rfl, by kernel_rfl, by kernel_rfl, by kernel_rfl, by kernel_rfl, by kernel_rfl, by first | kernel_rfl | trivial⟩
theorem tab58 : InfOK Try.prog 58 (.sc (Value.nilFunc)) := ⟨Try.t58, (TypeDesc.func #[22] #[57] false), by kernel_rfl, by kernel_rfl, by kernel_rfl, by kernel_rfl, by kernel_rfl, by kernel_rfl, by first | kernel_rfl | trivial⟩
theorem tab59 : InfOK Try.prog 59 (.sc (Value.nilFunc)) := ⟨Try.t59, (TypeDesc.func #[23, 3] #[23] false), by kernel_rfl, by kernel_rfl, by kernel_rfl, by kernel_rfl, by kernel_rfl, by kernel_rfl, by first | kernel_rfl | trivial⟩
theorem tab60 : InfOK Try.prog 60 (.sc (Value.nilFunc)) := ⟨Try.t60, (TypeDesc.func #[57] #[23] false), by kernel_rfl, by kernel_rfl, by kernel_rfl, by kernel_rfl, by kernel_rfl, by kernel_rfl, by first | kernel_rfl | trivial⟩
theorem tab61 : InfOK Try.prog 61 (.sc (Value.nilFunc)) := ⟨Try.t61, (TypeDesc.func #[3] #[3] false), by kernel_rfl, by kernel_rfl, by kernel_rfl, by kernel_rfl, by kernel_rfl, by kernel_rfl, by first | kernel_rfl | trivial⟩
theorem tab62 : InfOK Try.prog 62 (.sc (Value.nilFunc)) := ⟨Try.t62, (TypeDesc.func #[23, 3, 23] #[3] false), by kernel_rfl, by kernel_rfl, by kernel_rfl, by kernel_rfl, by kernel_rfl, by kernel_rfl, by first | kernel_rfl | trivial⟩
theorem tab63 : InfOK Try.prog 63 (.sc (Value.nilFunc)) := ⟨Try.t63, (TypeDesc.func #[57] #[3] false), by kernel_rfl, by kernel_rfl, by kernel_rfl, by kernel_rfl, by kernel_rfl, by kernel_rfl, by first | kernel_rfl | trivial⟩
theorem tab64 : InfOK Try.prog 64 (.sc (Value.nilFunc)) := ⟨Try.t64, (TypeDesc.func #[23, 23, 65] #[23, 3] false), by kernel_rfl, by kernel_rfl, by kernel_rfl, by kernel_rfl, by kernel_rfl, by kernel_rfl, by first | kernel_rfl | trivial⟩
theorem tab65 : InfOK Try.prog 65 (.sc (Value.nilFunc)) := ⟨Try.t65, (TypeDesc.func #[23, 3] #[23, 4] false), by kernel_rfl, by kernel_rfl, by kernel_rfl, by kernel_rfl, by kernel_rfl, by kernel_rfl, by first | kernel_rfl | trivial⟩
theorem tab66 : InfOK Try.prog 66 (.sc (Value.nilFunc)) := ⟨Try.t66, (TypeDesc.func #[23, 3, 3] #[4] false), by kernel_rfl, by kernel_rfl, by kernel_rfl, by kernel_rfl, by kernel_rfl, by kernel_rfl, by first | kernel_rfl | trivial⟩
theorem tab67 : InfOK Try.prog 67 (.sc (Value.nilFunc)) := ⟨Try.t67, (TypeDesc.func #[32] #[4] false), by kernel_rfl, by kernel_rfl, by kernel_rfl, by kernel_rfl, by kernel_rfl, by kernel_rfl, by first | kernel_rfl | trivial⟩
theorem tab68 : InfOK Try.prog 68 (.sc (Value.nilFunc)) := ⟨Try.t68, (TypeDesc.func #[32] #[3] false), by kernel_rfl, by kernel_rfl, by kernel_rfl, by kernel_rfl, by kernel_rfl, by kernel_rfl, by first | kernel_rfl | trivial⟩
theorem tab69 : InfOK Try.prog 69 (.sc (Value.nilFunc)) := ⟨Try.t69, (TypeDesc.func #[32] #[32] false), by kernel_rfl, by kernel_rfl, by kernel_rfl, by kernel_rfl, by kernel_rfl, by kernel_rfl, by first | kernel_rfl | trivial⟩
theorem tab70 : InfOK Try.prog 70 (.st [(0, 1), (1, 1)] [(Value.slice none 0 0), (Value.int IntKind.i64 0)]) := ⟨Try.t70, #[(Field.mk "b" 22 0 false "" "loop.example/cacheengine/spec" 0), (Field.mk "p" 3 1 false "" "loop.example/cacheengine/spec" 24)], by kernel_rfl, by kernel_rfl, by kernel_rfl, by kernel_rfl, by kernel_rfl, by kernel_rfl, fun n f h => by
    match n with
    | 0 => injection h with h; subst h; exact ⟨Try.t22, by kernel_rfl, by kernel_rfl, _, Try.underlying22, fun _ => rfl⟩
    | 1 => injection h with h; subst h; exact ⟨Try.t3, by kernel_rfl, by kernel_rfl, _, Try.underlying3, fun _ => rfl⟩
    | n + 2 => simp at h⟩
theorem tab71 : InfOK Try.prog 71 (.st [(0, 1), (1, 1)] [(Value.slice none 0 0), (Value.int IntKind.i64 0)]) := ⟨Try.t71, #[(Field.mk "b" 22 0 false "" "loop.example/cacheengine/spec" 0), (Field.mk "p" 3 1 false "" "loop.example/cacheengine/spec" 24)], by kernel_rfl, by kernel_rfl, by kernel_rfl, by kernel_rfl, by kernel_rfl, by kernel_rfl, fun n f h => by
    match n with
    | 0 => injection h with h; subst h; exact ⟨Try.t22, by kernel_rfl, by kernel_rfl, _, Try.underlying22, fun _ => rfl⟩
    | 1 => injection h with h; subst h; exact ⟨Try.t3, by kernel_rfl, by kernel_rfl, _, Try.underlying3, fun _ => rfl⟩
    | n + 2 => simp at h⟩
theorem tab72 : InfOK Try.prog 72 (.sc (Value.nilFunc)) := ⟨Try.t72, (TypeDesc.func #[23, 3, 3] #[3] false), by kernel_rfl, by kernel_rfl, by kernel_rfl, by kernel_rfl, by kernel_rfl, by kernel_rfl, by first | kernel_rfl | trivial⟩
theorem tab73 : InfOK Try.prog 73 (.sc (Value.nilFunc)) := ⟨Try.t73, (TypeDesc.func #[] #[9] false), by kernel_rfl, by kernel_rfl, by kernel_rfl, by kernel_rfl, by kernel_rfl, by kernel_rfl, by first | kernel_rfl | trivial⟩
theorem tab74 : InfOK Try.prog 74 (.st [(0, 1), (1, 1), (2, 1), (3, 1)] [(Value.pointer none), (Value.pointer none), (Value.pointer none), (Value.string (ByteArray.mk #[]))]) := ⟨Try.t74, #[(Field.mk "_interface" 17 0 false "" "runtime" 0), (Field.mk "concrete" 17 1 false "" "runtime" 8), (Field.mk "asserted" 17 2 false "" "runtime" 16), (Field.mk "missingMethod" 9 3 false "" "runtime" 24)], by kernel_rfl, by kernel_rfl, by kernel_rfl, by kernel_rfl, by kernel_rfl, by kernel_rfl, fun n f h => by
    match n with
    | 0 => injection h with h; subst h; exact ⟨Try.t17, by kernel_rfl, by kernel_rfl, _, Try.underlying17, fun _ => rfl⟩
    | 1 => injection h with h; subst h; exact ⟨Try.t17, by kernel_rfl, by kernel_rfl, _, Try.underlying17, fun _ => rfl⟩
    | 2 => injection h with h; subst h; exact ⟨Try.t17, by kernel_rfl, by kernel_rfl, _, Try.underlying17, fun _ => rfl⟩
    | 3 => injection h with h; subst h; exact ⟨Try.t9, by kernel_rfl, by kernel_rfl, _, Try.underlying9, fun _ => rfl⟩
    | n + 4 => simp at h⟩
theorem tab75 : InfOK Try.prog 75 (.st [(0, 1), (1, 1), (2, 1), (3, 1)] [(Value.pointer none), (Value.pointer none), (Value.pointer none), (Value.string (ByteArray.mk #[]))]) := ⟨Try.t75, #[(Field.mk "_interface" 17 0 false "" "runtime" 0), (Field.mk "concrete" 17 1 false "" "runtime" 8), (Field.mk "asserted" 17 2 false "" "runtime" 16), (Field.mk "missingMethod" 9 3 false "" "runtime" 24)], by kernel_rfl, by kernel_rfl, by kernel_rfl, by kernel_rfl, by kernel_rfl, by kernel_rfl, fun n f h => by
    match n with
    | 0 => injection h with h; subst h; exact ⟨Try.t17, by kernel_rfl, by kernel_rfl, _, Try.underlying17, fun _ => rfl⟩
    | 1 => injection h with h; subst h; exact ⟨Try.t17, by kernel_rfl, by kernel_rfl, _, Try.underlying17, fun _ => rfl⟩
    | 2 => injection h with h; subst h; exact ⟨Try.t17, by kernel_rfl, by kernel_rfl, _, Try.underlying17, fun _ => rfl⟩
    | 3 => injection h with h; subst h; exact ⟨Try.t9, by kernel_rfl, by kernel_rfl, _, Try.underlying9, fun _ => rfl⟩
    | n + 4 => simp at h⟩
theorem tab77 : InfOK Try.prog 77 (.st [(0, 0)] []) := ⟨Try.t77, #[(Field.mk "_" 76 0 false "" "runtime" 0)], by kernel_rfl, by kernel_rfl, by kernel_rfl, by kernel_rfl, by kernel_rfl, by kernel_rfl, fun n f h => by
    match n with
    | 0 => injection h with h; subst h; exact ⟨Try.t76, by kernel_rfl, by kernel_rfl, _, Try.underlying76, fun h => absurd h (by decide)⟩
    | n + 1 => simp at h⟩
theorem tab78 : InfOK Try.prog 78 (.st [(0, 0)] []) := ⟨Try.t78, #[(Field.mk "_" 76 0 false "" "runtime" 0)], by kernel_rfl, by kernel_rfl, by kernel_rfl, by kernel_rfl, by kernel_rfl, by kernel_rfl, fun n f h => by
    match n with
    | 0 => injection h with h; subst h; exact ⟨Try.t76, by kernel_rfl, by kernel_rfl, _, Try.underlying76, fun h => absurd h (by decide)⟩
    | n + 1 => simp at h⟩
theorem tab79 : InfOK Try.prog 79 (.sc (Value.nilFunc)) := ⟨Try.t79, (TypeDesc.func #[] #[3] false), by kernel_rfl, by kernel_rfl, by kernel_rfl, by kernel_rfl, by kernel_rfl, by kernel_rfl, by first | kernel_rfl | trivial⟩
theorem tab80 : InfOK Try.prog 80 (.sc ((Value.int IntKind.u32 0))) := ⟨Try.t80, (TypeDesc.int IntKind.u32), by kernel_rfl, by kernel_rfl, by kernel_rfl, by kernel_rfl, by kernel_rfl, by kernel_rfl, by first | kernel_rfl | trivial⟩
theorem tab81 : InfOK Try.prog 81 (.sc ((Value.int IntKind.u8 0))) := ⟨Try.t81, (TypeDesc.int IntKind.u8), by kernel_rfl, by kernel_rfl, by kernel_rfl, by kernel_rfl, by kernel_rfl, by kernel_rfl, by first | kernel_rfl | trivial⟩
theorem tab82 : InfOK Try.prog 82 (.sc ((Value.int IntKind.u8 0))) := ⟨Try.t82, (TypeDesc.int IntKind.u8), by kernel_rfl, by kernel_rfl, by kernel_rfl, by kernel_rfl, by kernel_rfl, by kernel_rfl, by first | kernel_rfl | trivial⟩
theorem tab83 : InfOK Try.prog 83 (.sc (Value.nilFunc)) := ⟨Try.t83, (TypeDesc.func #[89, 89] #[4] false), by kernel_rfl, by kernel_rfl, by kernel_rfl, by kernel_rfl, by kernel_rfl, by kernel_rfl, by first | kernel_rfl | trivial⟩
theorem tab84 : InfOK Try.prog 84 (.sc ((Value.pointer none))) := ⟨Try.t84, (TypeDesc.pointer 5), by kernel_rfl, by kernel_rfl, by kernel_rfl, by kernel_rfl, by kernel_rfl, by kernel_rfl, by first | kernel_rfl | trivial⟩
theorem tab85 : InfOK Try.prog 85 (.sc ((Value.int IntKind.i32 0))) := ⟨Try.t85, (TypeDesc.int IntKind.i32), by kernel_rfl, by kernel_rfl, by kernel_rfl, by kernel_rfl, by kernel_rfl, by kernel_rfl, by first | kernel_rfl | trivial⟩
theorem tab86 : InfOK Try.prog 86 (.sc ((Value.int IntKind.i32 0))) := ⟨Try.t86, (TypeDesc.int IntKind.i32), by kernel_rfl, by kernel_rfl, by kernel_rfl, by kernel_rfl, by kernel_rfl, by kernel_rfl, by first | kernel_rfl | trivial⟩
theorem tab87 : InfOK Try.prog 87 (.st [(0, 1), (1, 1), (2, 1), (3, 1), (4, 1), (5, 1), (6, 1), (7, 1), (8, 1), (9, 1), (10, 1)] [(Value.int IntKind.u64 0), (Value.int IntKind.u64 0), (Value.int IntKind.u32 0), (Value.int IntKind.u8 0), (Value.int IntKind.u8 0), (Value.int IntKind.u8 0), (Value.int IntKind.u8 0), Value.nilFunc, (Value.pointer none), (Value.int IntKind.i32 0), (Value.int IntKind.i32 0)]) := ⟨Try.t87, #[(Field.mk "Size_" 12 0 false "" "" 0), (Field.mk "PtrBytes" 12 1 false "" "" 8), (Field.mk "Hash" 80 2 false "" "" 16), (Field.mk "TFlag" 81 3 false "" "" 20), (Field.mk "Align_" 5 4 false "" "" 21), (Field.mk "FieldAlign_" 5 5 false "" "" 22), (Field.mk "Kind_" 82 6 false "" "" 23), (Field.mk "Equal" 83 7 false "" "" 24), (Field.mk "GCData" 84 8 false "" "" 32), (Field.mk "Str" 85 9 false "" "" 40), (Field.mk "PtrToThis" 86 10 false "" "" 44)], by kernel_rfl, by kernel_rfl, by kernel_rfl, by kernel_rfl, by kernel_rfl, by kernel_rfl, fun n f h => by
    match n with
    | 0 => injection h with h; subst h; exact ⟨Try.t12, by kernel_rfl, by kernel_rfl, _, Try.underlying12, fun _ => rfl⟩
    | 1 => injection h with h; subst h; exact ⟨Try.t12, by kernel_rfl, by kernel_rfl, _, Try.underlying12, fun _ => rfl⟩
    | 2 => injection h with h; subst h; exact ⟨Try.t80, by kernel_rfl, by kernel_rfl, _, Try.underlying80, fun _ => rfl⟩
    | 3 => injection h with h; subst h; exact ⟨Try.t81, by kernel_rfl, by kernel_rfl, _, Try.underlying81, fun _ => rfl⟩
    | 4 => injection h with h; subst h; exact ⟨Try.t5, by kernel_rfl, by kernel_rfl, _, Try.underlying5, fun _ => rfl⟩
    | 5 => injection h with h; subst h; exact ⟨Try.t5, by kernel_rfl, by kernel_rfl, _, Try.underlying5, fun _ => rfl⟩
    | 6 => injection h with h; subst h; exact ⟨Try.t82, by kernel_rfl, by kernel_rfl, _, Try.underlying82, fun _ => rfl⟩
    | 7 => injection h with h; subst h; exact ⟨Try.t83, by kernel_rfl, by kernel_rfl, _, Try.underlying83, fun _ => rfl⟩
    | 8 => injection h with h; subst h; exact ⟨Try.t84, by kernel_rfl, by kernel_rfl, _, Try.underlying84, fun _ => rfl⟩
    | 9 => injection h with h; subst h; exact ⟨Try.t85, by kernel_rfl, by kernel_rfl, _, Try.underlying85, fun _ => rfl⟩
    | 10 => injection h with h; subst h; exact ⟨Try.t86, by kernel_rfl, by kernel_rfl, _, Try.underlying86, fun _ => rfl⟩
    | n + 11 => simp at h⟩
theorem tab88 : InfOK Try.prog 88 (.st [(0, 1), (1, 1), (2, 1), (3, 1), (4, 1), (5, 1), (6, 1), (7, 1), (8, 1), (9, 1), (10, 1)] [(Value.int IntKind.u64 0), (Value.int IntKind.u64 0), (Value.int IntKind.u32 0), (Value.int IntKind.u8 0), (Value.int IntKind.u8 0), (Value.int IntKind.u8 0), (Value.int IntKind.u8 0), Value.nilFunc, (Value.pointer none), (Value.int IntKind.i32 0), (Value.int IntKind.i32 0)]) := ⟨Try.t88, #[(Field.mk "Size_" 12 0 false "" "" 0), (Field.mk "PtrBytes" 12 1 false "" "" 8), (Field.mk "Hash" 80 2 false "" "" 16), (Field.mk "TFlag" 81 3 false "" "" 20), (Field.mk "Align_" 5 4 false "" "" 21), (Field.mk "FieldAlign_" 5 5 false "" "" 22), (Field.mk "Kind_" 82 6 false "" "" 23), (Field.mk "Equal" 83 7 false "" "" 24), (Field.mk "GCData" 84 8 false "" "" 32), (Field.mk "Str" 85 9 false "" "" 40), (Field.mk "PtrToThis" 86 10 false "" "" 44)], by kernel_rfl, by kernel_rfl, by kernel_rfl, by kernel_rfl, by kernel_rfl, by kernel_rfl, fun n f h => by
    match n with
    | 0 => injection h with h; subst h; exact ⟨Try.t12, by kernel_rfl, by kernel_rfl, _, Try.underlying12, fun _ => rfl⟩
    | 1 => injection h with h; subst h; exact ⟨Try.t12, by kernel_rfl, by kernel_rfl, _, Try.underlying12, fun _ => rfl⟩
    | 2 => injection h with h; subst h; exact ⟨Try.t80, by kernel_rfl, by kernel_rfl, _, Try.underlying80, fun _ => rfl⟩
    | 3 => injection h with h; subst h; exact ⟨Try.t81, by kernel_rfl, by kernel_rfl, _, Try.underlying81, fun _ => rfl⟩
    | 4 => injection h with h; subst h; exact ⟨Try.t5, by kernel_rfl, by kernel_rfl, _, Try.underlying5, fun _ => rfl⟩
    | 5 => injection h with h; subst h; exact ⟨Try.t5, by kernel_rfl, by kernel_rfl, _, Try.underlying5, fun _ => rfl⟩
    | 6 => injection h with h; subst h; exact ⟨Try.t82, by kernel_rfl, by kernel_rfl, _, Try.underlying82, fun _ => rfl⟩
    | 7 => injection h with h; subst h; exact ⟨Try.t83, by kernel_rfl, by kernel_rfl, _, Try.underlying83, fun _ => rfl⟩
    | 8 => injection h with h; subst h; exact ⟨Try.t84, by kernel_rfl, by kernel_rfl, _, Try.underlying84, fun _ => rfl⟩
    | 9 => injection h with h; subst h; exact ⟨Try.t85, by kernel_rfl, by kernel_rfl, _, Try.underlying85, fun _ => rfl⟩
    | 10 => injection h with h; subst h; exact ⟨Try.t86, by kernel_rfl, by kernel_rfl, _, Try.underlying86, fun _ => rfl⟩
    | n + 11 => simp at h⟩
theorem tab89 : InfOK Try.prog 89 (.sc ((Value.pointer none))) := ⟨Try.t89, TypeDesc.unsafePointer, by kernel_rfl, by kernel_rfl, by kernel_rfl, by kernel_rfl, by kernel_rfl, by kernel_rfl, by first | kernel_rfl | trivial⟩
theorem tabOK : TabOK Try.prog TT := tabOK_of ⟨tab1, tab2, tab3, tab4, tab5, tab6, tab7, tab8, tab9, tab10, tab11, tab12, tab13, tab14, tab15, tab16, tab17, tab18, tab19, tab20, tab21, tab22, tab23, tab25, tab26, tab27, tab28, tab29, tab30, tab31, tab32, tab34, tab35, tab36, tab38, tab39, tab40, tab41, tab43, tab45, tab46, tab47, tab48, tab49, tab50, tab51, tab52, tab53, tab54, tab56, tab57, tab58, tab59, tab60, tab61, tab62, tab63, tab64, tab65, tab66, tab67, tab68, tab69, tab70, tab71, tab72, tab73, tab74, tab75, tab77, tab78, tab79, tab80, tab81, tab82, tab83, tab84, tab85, tab86, tab87, tab88, tab89, trivial⟩
theorem mixed : Try.prog.follows .mixedOrders = true := by kernel_rfl
end Go.Ev
