/- The types of the program, as the evaluator wants them. No statement is proved here. -/
import Derived.Test.YtemhpncmhdcheabGreatDoorEvT
import Derived.Test.YtemhpncmhdcheabGreatDoorChecked
namespace Go.Ev
set_option linter.unusedVariables false
set_option linter.unusedSimpArgs false
open Go Go.Proofs
def TT:Tab:=[(1,.sc (Value.nilFunc)),
 (2,.sc ((Value.int IntKind.i64 0))),
 (3,.sc ((Value.int IntKind.i64 0))),
 (4,.sc ((Value.bool false))),
 (5,.sc ((Value.int IntKind.u8 0))),
 (9,.sc ((Value.string (ByteArray.mk #[])))),
 (10,.sc ((Value.string (ByteArray.mk #[])))),
 (20,.sc (Value.nilIface)),
 (22,.sl 9 .str),
 (24,.sc (Value.nilFunc)),
 (28,.sc ((Value.pointer none))),
 (29,.sl 3 .int),
 (30,.sl 78 .iib),
 (32,.st [(0,1),(1,1),(2,1)] [(Value.slice none 0 0),(Value.slice none 0 0),(Value.int IntKind.i64 0)]),
 (34,.st [(0,3),(3,1)] [(Value.slice none 0 0),(Value.slice none 0 0),(Value.int IntKind.i64 0),(Value.slice none 0 0)]),
 (37,.st [(0,3),(3,1)] [(Value.slice none 0 0),(Value.slice none 0 0),(Value.int IntKind.i64 0),(Value.slice none 0 0)]),
 (42,.sc (Value.nilFunc)),
 (46,.sc (Value.nilFunc)),
 (47,.sc ((Value.pointer none))),
 (48,.sc (Value.nilFunc)),
 (50,.st [(0,1),(1,1)] [(Value.int IntKind.i64 0),Value.nilFunc]),
 (52,.mp 9 50),
 (53,.sc (Value.nilFunc)),
 (55,.sc (Value.nilFunc)),
 (56,.sc (Value.nilFunc)),
 (58,.sc (Value.nilFunc)),
 (62,.sl 4 .bool),
 (64,.st [(0,1),(1,1),(2,1),(3,1)] [(Value.int IntKind.i64 0),(Value.slice none 0 0),(Value.slice none 0 0),(Value.int IntKind.i64 0)]),
 (67,.sl 106 .iii),
 (70,.st [(0,1),(1,1),(2,1),(3,1),(4,1),(5,1)] [(Value.int IntKind.i64 0),(Value.int IntKind.i64 0),(Value.slice none 0 0),(Value.slice none 0 0),(Value.slice none 0 0),(Value.slice none 0 0)]),
 (71,.st [(0,1),(1,1),(2,1),(3,1),(4,1),(5,1)] [(Value.int IntKind.i64 0),(Value.int IntKind.i64 0),(Value.slice none 0 0),(Value.slice none 0 0),(Value.slice none 0 0),(Value.slice none 0 0)]),
 (77,.st [(0,1),(1,1),(2,1)] [(Value.int IntKind.i64 0),(Value.int IntKind.i64 0),(Value.bool false)]),
 (78,.st [(0,1),(1,1),(2,1)] [(Value.int IntKind.i64 0),(Value.int IntKind.i64 0),(Value.bool false)]),
 (84,.sl 5 .u8),
 (86,.sc (Value.nilFunc)),
 (89,.sc (Value.nilFunc)),
 (93,.sc (Value.nilFunc)),
 (97,.sc (Value.nilFunc)),
 (98,.sc (Value.nilFunc)),
 (99,.sc (Value.nilFunc)),
 (100,.sc (Value.nilFunc)),
 (101,.sc (Value.nilFunc)),
 (102,.sc (Value.nilFunc)),
 (103,.sc (Value.nilFunc)),
 (104,.sc (Value.nilFunc)),
 (105,.st [(0,1),(1,1),(2,1)] [(Value.int IntKind.i64 0),(Value.int IntKind.i64 0),(Value.int IntKind.i64 0)]),
 (106,.st [(0,1),(1,1),(2,1)] [(Value.int IntKind.i64 0),(Value.int IntKind.i64 0),(Value.int IntKind.i64 0)]),
 (107,.sc (Value.nilFunc)),
 (108,.sc (Value.nilFunc)),
 (109,.sc (Value.nilFunc)),
 (110,.sc (Value.nilFunc)),
 (111,.sc (Value.nilFunc)),
 (114,.sc (Value.nilFunc)),
 (115,.sc (Value.nilIface)),
 (116,.sc (Value.nilIface)),
 (118,.sc (Value.nilFunc)),
 (119,.sc (Value.nilFunc)),
 (121,.sc (Value.nilFunc)),
 (136,.sc (Value.nilFunc)),
 (162,.sc (Value.nilFunc)),
 (180,.sc (Value.nilFunc)),
 (185,.sc (Value.nilFunc)),
 (187,.sc ((Value.pointer none))),
 (200,.sl2 29 .int),
 (1000077,.eq 77 [.int,.int,.bool]),
 (1000078,.eq 78 [.int,.int,.bool]),
 (1000105,.eq 105 [.int,.int,.int]),
 (1000106,.eq 106 [.int,.int,.int])]
theorem tab1:InfOK Tryz.prog 1 (.sc (Value.nilFunc)):=⟨Tryz.t1,(TypeDesc.func #[] #[] false),by kernel_rfl,by kernel_rfl,by kernel_rfl,by kernel_rfl,by kernel_rfl,by kernel_rfl,by first | kernel_rfl | exact ⟨_,rfl⟩ | trivial⟩
theorem tab2:InfOK Tryz.prog 2 (.sc ((Value.int IntKind.i64 0))):=⟨Tryz.t2,(TypeDesc.int IntKind.i64),by kernel_rfl,by kernel_rfl,by kernel_rfl,by kernel_rfl,by kernel_rfl,by kernel_rfl,by first | kernel_rfl | exact ⟨_,rfl⟩ | trivial⟩
theorem tab3:InfOK Tryz.prog 3 (.sc ((Value.int IntKind.i64 0))):=⟨Tryz.t3,(TypeDesc.int IntKind.i64),by kernel_rfl,by kernel_rfl,by kernel_rfl,by kernel_rfl,by kernel_rfl,by kernel_rfl,by first | kernel_rfl | exact ⟨_,rfl⟩ | trivial⟩
theorem tab4:InfOK Tryz.prog 4 (.sc ((Value.bool false))):=⟨Tryz.t4,TypeDesc.bool,by kernel_rfl,by kernel_rfl,by kernel_rfl,by kernel_rfl,by kernel_rfl,by kernel_rfl,by first | kernel_rfl | exact ⟨_,rfl⟩ | trivial⟩
theorem tab5:InfOK Tryz.prog 5 (.sc ((Value.int IntKind.u8 0))):=⟨Tryz.t5,(TypeDesc.int IntKind.u8),by kernel_rfl,by kernel_rfl,by kernel_rfl,by kernel_rfl,by kernel_rfl,by kernel_rfl,by first | kernel_rfl | exact ⟨_,rfl⟩ | trivial⟩
theorem tab9:InfOK Tryz.prog 9 (.sc ((Value.string (ByteArray.mk #[])))):=⟨Tryz.t9,TypeDesc.string,by kernel_rfl,by kernel_rfl,by kernel_rfl,by kernel_rfl,by kernel_rfl,by kernel_rfl,by first | kernel_rfl | exact ⟨_,rfl⟩ | trivial⟩
theorem tab10:InfOK Tryz.prog 10 (.sc ((Value.string (ByteArray.mk #[])))):=⟨Tryz.t10,TypeDesc.string,by kernel_rfl,by kernel_rfl,by kernel_rfl,by kernel_rfl,by kernel_rfl,by kernel_rfl,by first | kernel_rfl | exact ⟨_,rfl⟩ | trivial⟩
theorem tab20:InfOK Tryz.prog 20 (.sc (Value.nilIface)):=⟨Tryz.t20,(TypeDesc.interface #[]),by kernel_rfl,by kernel_rfl,by kernel_rfl,by kernel_rfl,by kernel_rfl,by kernel_rfl,by first | kernel_rfl | exact ⟨_,rfl⟩ | trivial⟩
theorem tab22:InfOK Tryz.prog 22 (.sl 9 .str):=⟨Tryz.t9,by kernel_rfl,by kernel_rfl,by kernel_rfl,⟨(Value.string (ByteArray.mk #[])),by kernel_rfl,by kernel_rfl⟩,by decide,by decide,Tryz.t22,by kernel_rfl,by kernel_rfl,by kernel_rfl⟩
theorem tab24:InfOK Tryz.prog 24 (.sc (Value.nilFunc)):=⟨Tryz.t24,(TypeDesc.func #[22] #[9] false),by kernel_rfl,by kernel_rfl,by kernel_rfl,by kernel_rfl,by kernel_rfl,by kernel_rfl,by first | kernel_rfl | exact ⟨_,rfl⟩ | trivial⟩
theorem tab28:InfOK Tryz.prog 28 (.sc ((Value.pointer none))):=⟨Tryz.t28,(TypeDesc.pointer 34),by kernel_rfl,by kernel_rfl,by kernel_rfl,by kernel_rfl,by kernel_rfl,by kernel_rfl,by first | kernel_rfl | exact ⟨_,rfl⟩ | trivial⟩
theorem tab29:InfOK Tryz.prog 29 (.sl 3 .int):=⟨Tryz.t3,by kernel_rfl,by kernel_rfl,by kernel_rfl,⟨(Value.int IntKind.i64 0),by kernel_rfl,by kernel_rfl⟩,by decide,by decide,Tryz.t29,by kernel_rfl,by kernel_rfl,by kernel_rfl⟩
theorem tab30:InfOK Tryz.prog 30 (.sl 78 .iib):=⟨Tryz.t78,by kernel_rfl,by kernel_rfl,by kernel_rfl,⟨(Value.agg #[(Value.int IntKind.i64 0),(Value.int IntKind.i64 0),(Value.bool false)]),by kernel_rfl,by kernel_rfl⟩,by decide,by decide,Tryz.t30,by kernel_rfl,by kernel_rfl,by kernel_rfl⟩
theorem tab32:InfOK Tryz.prog 32 (.st [(0,1),(1,1),(2,1)] [(Value.slice none 0 0),(Value.slice none 0 0),(Value.int IntKind.i64 0)]):=⟨Tryz.t32,#[(Field.mk "Store" 29 0 false "" "" 0),(Field.mk "Lines" 30 1 false "" "" 24),(Field.mk "Room" 3 2 false "" "" 48)],by kernel_rfl,by kernel_rfl,by kernel_rfl,by kernel_rfl,by kernel_rfl,by kernel_rfl,fun n f h=>by
  match n with
  | 0=>injection h with h; subst h; exact ⟨Tryz.t29,by kernel_rfl,by kernel_rfl,_,Tryz.underlying29,fun _=>rfl⟩
  | 1=>injection h with h; subst h; exact ⟨Tryz.t30,by kernel_rfl,by kernel_rfl,_,Tryz.underlying30,fun _=>rfl⟩
  | 2=>injection h with h; subst h; exact ⟨Tryz.t3,by kernel_rfl,by kernel_rfl,_,Tryz.underlying3,fun _=>rfl⟩
  | n+3=>simp at h⟩
theorem tab34:InfOK Tryz.prog 34 (.st [(0,3),(3,1)] [(Value.slice none 0 0),(Value.slice none 0 0),(Value.int IntKind.i64 0),(Value.slice none 0 0)]):=⟨Tryz.t34,#[(Field.mk "m" 32 0 false "" "loop.example/cacheengine/spec" 0),(Field.mk "seen" 29 3 false "" "loop.example/cacheengine/spec" 56)],by kernel_rfl,by kernel_rfl,by kernel_rfl,by kernel_rfl,by kernel_rfl,by kernel_rfl,fun n f h=>by
  match n with
  | 0=>injection h with h; subst h; exact ⟨Tryz.t32,by kernel_rfl,by kernel_rfl,_,Tryz.underlying32,fun h=>absurd h (by decide)⟩
  | 1=>injection h with h; subst h; exact ⟨Tryz.t29,by kernel_rfl,by kernel_rfl,_,Tryz.underlying29,fun _=>rfl⟩
  | n+2=>simp at h⟩
theorem tab37:InfOK Tryz.prog 37 (.st [(0,3),(3,1)] [(Value.slice none 0 0),(Value.slice none 0 0),(Value.int IntKind.i64 0),(Value.slice none 0 0)]):=⟨Tryz.t37,#[(Field.mk "memory" 32 0 false "" "loop.example/cacheengine/impl" 0),(Field.mk "trace" 29 3 false "" "loop.example/cacheengine/impl" 56)],by kernel_rfl,by kernel_rfl,by kernel_rfl,by kernel_rfl,by kernel_rfl,by kernel_rfl,fun n f h=>by
  match n with
  | 0=>injection h with h; subst h; exact ⟨Tryz.t32,by kernel_rfl,by kernel_rfl,_,Tryz.underlying32,fun h=>absurd h (by decide)⟩
  | 1=>injection h with h; subst h; exact ⟨Tryz.t29,by kernel_rfl,by kernel_rfl,_,Tryz.underlying29,fun _=>rfl⟩
  | n+2=>simp at h⟩
theorem tab42:InfOK Tryz.prog 42 (.sc (Value.nilFunc)):=⟨Tryz.t42,(TypeDesc.func #[9,3] #[9] false),by kernel_rfl,by kernel_rfl,by kernel_rfl,by kernel_rfl,by kernel_rfl,by kernel_rfl,by first | kernel_rfl | exact ⟨_,rfl⟩ | trivial⟩
theorem tab46:InfOK Tryz.prog 46 (.sc (Value.nilFunc)):=⟨Tryz.t46,(TypeDesc.func #[32] #[32,4] false),by kernel_rfl,by kernel_rfl,by kernel_rfl,by kernel_rfl,by kernel_rfl,by kernel_rfl,by first | kernel_rfl | exact ⟨_,rfl⟩ | trivial⟩
theorem tab47:InfOK Tryz.prog 47 (.sc ((Value.pointer none))):=⟨Tryz.t47,(TypeDesc.pointer 37),by kernel_rfl,by kernel_rfl,by kernel_rfl,by kernel_rfl,by kernel_rfl,by kernel_rfl,by first | kernel_rfl | exact ⟨_,rfl⟩ | trivial⟩
theorem tab48:InfOK Tryz.prog 48 (.sc (Value.nilFunc)):=⟨Tryz.t48,(TypeDesc.func #[9,9] #[22] false),by kernel_rfl,by kernel_rfl,by kernel_rfl,by kernel_rfl,by kernel_rfl,by kernel_rfl,by first | kernel_rfl | exact ⟨_,rfl⟩ | trivial⟩
theorem tab50:InfOK Tryz.prog 50 (.st [(0,1),(1,1)] [(Value.int IntKind.i64 0),Value.nilFunc]):=⟨Tryz.t50,#[(Field.mk "words" 3 0 false "" "loop.example/cacheengine/impl" 0),(Field.mk "run" 24 1 false "" "loop.example/cacheengine/impl" 8)],by kernel_rfl,by kernel_rfl,by kernel_rfl,by kernel_rfl,by kernel_rfl,by kernel_rfl,fun n f h=>by
  match n with
  | 0=>injection h with h; subst h; exact ⟨Tryz.t3,by kernel_rfl,by kernel_rfl,_,Tryz.underlying3,fun _=>rfl⟩
  | 1=>injection h with h; subst h; exact ⟨Tryz.t24,by kernel_rfl,by kernel_rfl,_,Tryz.underlying24,fun _=>rfl⟩
  | n+2=>simp at h⟩
theorem tab52:InfOK Tryz.prog 52 (.mp 9 50):=⟨by kernel_rfl,by kernel_rfl,Tryz.t50,by kernel_rfl,by kernel_rfl⟩
theorem tab53:InfOK Tryz.prog 53 (.sc (Value.nilFunc)):=⟨Tryz.t53,(TypeDesc.func #[] #[52] false),by kernel_rfl,by kernel_rfl,by kernel_rfl,by kernel_rfl,by kernel_rfl,by kernel_rfl,by first | kernel_rfl | exact ⟨_,rfl⟩ | trivial⟩
theorem tab55:InfOK Tryz.prog 55 (.sc (Value.nilFunc)):=⟨Tryz.t55,(TypeDesc.func #[32,3] #[32,3,4] false),by kernel_rfl,by kernel_rfl,by kernel_rfl,by kernel_rfl,by kernel_rfl,by kernel_rfl,by first | kernel_rfl | exact ⟨_,rfl⟩ | trivial⟩
theorem tab56:InfOK Tryz.prog 56 (.sc (Value.nilFunc)):=⟨Tryz.t56,(TypeDesc.func #[3] #[] false),by kernel_rfl,by kernel_rfl,by kernel_rfl,by kernel_rfl,by kernel_rfl,by kernel_rfl,by first | kernel_rfl | exact ⟨_,rfl⟩ | trivial⟩
theorem tab58:InfOK Tryz.prog 58 (.sc (Value.nilFunc)):=⟨Tryz.t58,(TypeDesc.func #[9] #[3,4] false),by kernel_rfl,by kernel_rfl,by kernel_rfl,by kernel_rfl,by kernel_rfl,by kernel_rfl,by first | kernel_rfl | exact ⟨_,rfl⟩ | trivial⟩
theorem tab62:InfOK Tryz.prog 62 (.sl 4 .bool):=⟨Tryz.t4,by kernel_rfl,by kernel_rfl,by kernel_rfl,⟨(Value.bool false),by kernel_rfl,by kernel_rfl⟩,by decide,by decide,Tryz.t62,by kernel_rfl,by kernel_rfl,by kernel_rfl⟩
theorem tab64:InfOK Tryz.prog 64 (.st [(0,1),(1,1),(2,1),(3,1)] [(Value.int IntKind.i64 0),(Value.slice none 0 0),(Value.slice none 0 0),(Value.int IntKind.i64 0)]):=⟨Tryz.t64,#[(Field.mk "Room" 3 0 false "" "" 0),(Field.mk "Keys" 29 1 false "" "" 8),(Field.mk "Used" 62 2 false "" "" 32),(Field.mk "Hand" 3 3 false "" "" 56)],by kernel_rfl,by kernel_rfl,by kernel_rfl,by kernel_rfl,by kernel_rfl,by kernel_rfl,fun n f h=>by
  match n with
  | 0=>injection h with h; subst h; exact ⟨Tryz.t3,by kernel_rfl,by kernel_rfl,_,Tryz.underlying3,fun _=>rfl⟩
  | 1=>injection h with h; subst h; exact ⟨Tryz.t29,by kernel_rfl,by kernel_rfl,_,Tryz.underlying29,fun _=>rfl⟩
  | 2=>injection h with h; subst h; exact ⟨Tryz.t62,by kernel_rfl,by kernel_rfl,_,Tryz.underlying62,fun _=>rfl⟩
  | 3=>injection h with h; subst h; exact ⟨Tryz.t3,by kernel_rfl,by kernel_rfl,_,Tryz.underlying3,fun _=>rfl⟩
  | n+4=>simp at h⟩
theorem tab67:InfOK Tryz.prog 67 (.sl 106 .iii):=⟨Tryz.t106,by kernel_rfl,by kernel_rfl,by kernel_rfl,⟨(Value.agg #[(Value.int IntKind.i64 0),(Value.int IntKind.i64 0),(Value.int IntKind.i64 0)]),by kernel_rfl,by kernel_rfl⟩,by decide,by decide,Tryz.t67,by kernel_rfl,by kernel_rfl,by kernel_rfl⟩
theorem tab70:InfOK Tryz.prog 70 (.st [(0,1),(1,1),(2,1),(3,1),(4,1),(5,1)] [(Value.int IntKind.i64 0),(Value.int IntKind.i64 0),(Value.slice none 0 0),(Value.slice none 0 0),(Value.slice none 0 0),(Value.slice none 0 0)]):=⟨Tryz.t70,#[(Field.mk "Room" 3 0 false "" "" 0),(Field.mk "Target" 3 1 false "" "" 8),(Field.mk "Once" 29 2 false "" "" 16),(Field.mk "Often" 29 3 false "" "" 40),(Field.mk "WasOnce" 29 4 false "" "" 64),(Field.mk "WasOften" 29 5 false "" "" 88)],by kernel_rfl,by kernel_rfl,by kernel_rfl,by kernel_rfl,by kernel_rfl,by kernel_rfl,fun n f h=>by
  match n with
  | 0=>injection h with h; subst h; exact ⟨Tryz.t3,by kernel_rfl,by kernel_rfl,_,Tryz.underlying3,fun _=>rfl⟩
  | 1=>injection h with h; subst h; exact ⟨Tryz.t3,by kernel_rfl,by kernel_rfl,_,Tryz.underlying3,fun _=>rfl⟩
  | 2=>injection h with h; subst h; exact ⟨Tryz.t29,by kernel_rfl,by kernel_rfl,_,Tryz.underlying29,fun _=>rfl⟩
  | 3=>injection h with h; subst h; exact ⟨Tryz.t29,by kernel_rfl,by kernel_rfl,_,Tryz.underlying29,fun _=>rfl⟩
  | 4=>injection h with h; subst h; exact ⟨Tryz.t29,by kernel_rfl,by kernel_rfl,_,Tryz.underlying29,fun _=>rfl⟩
  | 5=>injection h with h; subst h; exact ⟨Tryz.t29,by kernel_rfl,by kernel_rfl,_,Tryz.underlying29,fun _=>rfl⟩
  | n+6=>simp at h⟩
theorem tab71:InfOK Tryz.prog 71 (.st [(0,1),(1,1),(2,1),(3,1),(4,1),(5,1)] [(Value.int IntKind.i64 0),(Value.int IntKind.i64 0),(Value.slice none 0 0),(Value.slice none 0 0),(Value.slice none 0 0),(Value.slice none 0 0)]):=⟨Tryz.t71,#[(Field.mk "Room" 3 0 false "" "" 0),(Field.mk "Target" 3 1 false "" "" 8),(Field.mk "Once" 29 2 false "" "" 16),(Field.mk "Often" 29 3 false "" "" 40),(Field.mk "WasOnce" 29 4 false "" "" 64),(Field.mk "WasOften" 29 5 false "" "" 88)],by kernel_rfl,by kernel_rfl,by kernel_rfl,by kernel_rfl,by kernel_rfl,by kernel_rfl,fun n f h=>by
  match n with
  | 0=>injection h with h; subst h; exact ⟨Tryz.t3,by kernel_rfl,by kernel_rfl,_,Tryz.underlying3,fun _=>rfl⟩
  | 1=>injection h with h; subst h; exact ⟨Tryz.t3,by kernel_rfl,by kernel_rfl,_,Tryz.underlying3,fun _=>rfl⟩
  | 2=>injection h with h; subst h; exact ⟨Tryz.t29,by kernel_rfl,by kernel_rfl,_,Tryz.underlying29,fun _=>rfl⟩
  | 3=>injection h with h; subst h; exact ⟨Tryz.t29,by kernel_rfl,by kernel_rfl,_,Tryz.underlying29,fun _=>rfl⟩
  | 4=>injection h with h; subst h; exact ⟨Tryz.t29,by kernel_rfl,by kernel_rfl,_,Tryz.underlying29,fun _=>rfl⟩
  | 5=>injection h with h; subst h; exact ⟨Tryz.t29,by kernel_rfl,by kernel_rfl,_,Tryz.underlying29,fun _=>rfl⟩
  | n+6=>simp at h⟩
theorem tab77:InfOK Tryz.prog 77 (.st [(0,1),(1,1),(2,1)] [(Value.int IntKind.i64 0),(Value.int IntKind.i64 0),(Value.bool false)]):=⟨Tryz.t77,#[(Field.mk "Key" 3 0 false "" "" 0),(Field.mk "Value" 3 1 false "" "" 8),(Field.mk "Dirty" 4 2 false "" "" 16)],by kernel_rfl,by kernel_rfl,by kernel_rfl,by kernel_rfl,by kernel_rfl,by kernel_rfl,fun n f h=>by
  match n with
  | 0=>injection h with h; subst h; exact ⟨Tryz.t3,by kernel_rfl,by kernel_rfl,_,Tryz.underlying3,fun _=>rfl⟩
  | 1=>injection h with h; subst h; exact ⟨Tryz.t3,by kernel_rfl,by kernel_rfl,_,Tryz.underlying3,fun _=>rfl⟩
  | 2=>injection h with h; subst h; exact ⟨Tryz.t4,by kernel_rfl,by kernel_rfl,_,Tryz.underlying4,fun _=>rfl⟩
  | n+3=>simp at h⟩
theorem tab78:InfOK Tryz.prog 78 (.st [(0,1),(1,1),(2,1)] [(Value.int IntKind.i64 0),(Value.int IntKind.i64 0),(Value.bool false)]):=⟨Tryz.t78,#[(Field.mk "Key" 3 0 false "" "" 0),(Field.mk "Value" 3 1 false "" "" 8),(Field.mk "Dirty" 4 2 false "" "" 16)],by kernel_rfl,by kernel_rfl,by kernel_rfl,by kernel_rfl,by kernel_rfl,by kernel_rfl,fun n f h=>by
  match n with
  | 0=>injection h with h; subst h; exact ⟨Tryz.t3,by kernel_rfl,by kernel_rfl,_,Tryz.underlying3,fun _=>rfl⟩
  | 1=>injection h with h; subst h; exact ⟨Tryz.t3,by kernel_rfl,by kernel_rfl,_,Tryz.underlying3,fun _=>rfl⟩
  | 2=>injection h with h; subst h; exact ⟨Tryz.t4,by kernel_rfl,by kernel_rfl,_,Tryz.underlying4,fun _=>rfl⟩
  | n+3=>simp at h⟩
theorem tab84:InfOK Tryz.prog 84 (.sl 5 .u8):=⟨Tryz.t5,by kernel_rfl,by kernel_rfl,by kernel_rfl,⟨(Value.int IntKind.u8 0),by kernel_rfl,by kernel_rfl⟩,by decide,by decide,Tryz.t84,by kernel_rfl,by kernel_rfl,by kernel_rfl⟩
theorem tab86:InfOK Tryz.prog 86 (.sc (Value.nilFunc)):=⟨Tryz.t86,(TypeDesc.func #[29,3,3] #[29,4] false),by kernel_rfl,by kernel_rfl,by kernel_rfl,by kernel_rfl,by kernel_rfl,by kernel_rfl,by first | kernel_rfl | exact ⟨_,rfl⟩ | trivial⟩
theorem tab89:InfOK Tryz.prog 89 (.sc (Value.nilFunc)):=⟨Tryz.t89,(TypeDesc.func #[64,3] #[64,4] false),by kernel_rfl,by kernel_rfl,by kernel_rfl,by kernel_rfl,by kernel_rfl,by kernel_rfl,by first | kernel_rfl | exact ⟨_,rfl⟩ | trivial⟩
theorem tab93:InfOK Tryz.prog 93 (.sc (Value.nilFunc)):=⟨Tryz.t93,(TypeDesc.func #[71,3] #[71,4] false),by kernel_rfl,by kernel_rfl,by kernel_rfl,by kernel_rfl,by kernel_rfl,by kernel_rfl,by first | kernel_rfl | exact ⟨_,rfl⟩ | trivial⟩
theorem tab97:InfOK Tryz.prog 97 (.sc (Value.nilFunc)):=⟨Tryz.t97,(TypeDesc.func #[9,3] #[22] false),by kernel_rfl,by kernel_rfl,by kernel_rfl,by kernel_rfl,by kernel_rfl,by kernel_rfl,by first | kernel_rfl | exact ⟨_,rfl⟩ | trivial⟩
theorem tab98:InfOK Tryz.prog 98 (.sc (Value.nilFunc)):=⟨Tryz.t98,(TypeDesc.func #[9,9] #[3] false),by kernel_rfl,by kernel_rfl,by kernel_rfl,by kernel_rfl,by kernel_rfl,by kernel_rfl,by first | kernel_rfl | exact ⟨_,rfl⟩ | trivial⟩
theorem tab99:InfOK Tryz.prog 99 (.sc (Value.nilFunc)):=⟨Tryz.t99,(TypeDesc.func #[32,3] #[] false),by kernel_rfl,by kernel_rfl,by kernel_rfl,by kernel_rfl,by kernel_rfl,by kernel_rfl,by first | kernel_rfl | exact ⟨_,rfl⟩ | trivial⟩
theorem tab100:InfOK Tryz.prog 100 (.sc (Value.nilFunc)):=⟨Tryz.t100,(TypeDesc.func #[29,9,3] #[3] false),by kernel_rfl,by kernel_rfl,by kernel_rfl,by kernel_rfl,by kernel_rfl,by kernel_rfl,by first | kernel_rfl | exact ⟨_,rfl⟩ | trivial⟩
theorem tab101:InfOK Tryz.prog 101 (.sc (Value.nilFunc)):=⟨Tryz.t101,(TypeDesc.func #[32,3] #[3] false),by kernel_rfl,by kernel_rfl,by kernel_rfl,by kernel_rfl,by kernel_rfl,by kernel_rfl,by first | kernel_rfl | exact ⟨_,rfl⟩ | trivial⟩
theorem tab102:InfOK Tryz.prog 102 (.sc (Value.nilFunc)):=⟨Tryz.t102,(TypeDesc.func #[29,3] #[29] false),by kernel_rfl,by kernel_rfl,by kernel_rfl,by kernel_rfl,by kernel_rfl,by kernel_rfl,by first | kernel_rfl | exact ⟨_,rfl⟩ | trivial⟩
theorem tab103:InfOK Tryz.prog 103 (.sc (Value.nilFunc)):=⟨Tryz.t103,(TypeDesc.func #[29,3] #[4] false),by kernel_rfl,by kernel_rfl,by kernel_rfl,by kernel_rfl,by kernel_rfl,by kernel_rfl,by first | kernel_rfl | exact ⟨_,rfl⟩ | trivial⟩
theorem tab104:InfOK Tryz.prog 104 (.sc (Value.nilFunc)):=⟨Tryz.t104,(TypeDesc.func #[64] #[64] false),by kernel_rfl,by kernel_rfl,by kernel_rfl,by kernel_rfl,by kernel_rfl,by kernel_rfl,by first | kernel_rfl | exact ⟨_,rfl⟩ | trivial⟩
theorem tab105:InfOK Tryz.prog 105 (.st [(0,1),(1,1),(2,1)] [(Value.int IntKind.i64 0),(Value.int IntKind.i64 0),(Value.int IntKind.i64 0)]):=⟨Tryz.t105,#[(Field.mk "Key" 3 0 false "" "" 0),(Field.mk "Count" 3 1 false "" "" 8),(Field.mk "Last" 3 2 false "" "" 16)],by kernel_rfl,by kernel_rfl,by kernel_rfl,by kernel_rfl,by kernel_rfl,by kernel_rfl,fun n f h=>by
  match n with
  | 0=>injection h with h; subst h; exact ⟨Tryz.t3,by kernel_rfl,by kernel_rfl,_,Tryz.underlying3,fun _=>rfl⟩
  | 1=>injection h with h; subst h; exact ⟨Tryz.t3,by kernel_rfl,by kernel_rfl,_,Tryz.underlying3,fun _=>rfl⟩
  | 2=>injection h with h; subst h; exact ⟨Tryz.t3,by kernel_rfl,by kernel_rfl,_,Tryz.underlying3,fun _=>rfl⟩
  | n+3=>simp at h⟩
theorem tab106:InfOK Tryz.prog 106 (.st [(0,1),(1,1),(2,1)] [(Value.int IntKind.i64 0),(Value.int IntKind.i64 0),(Value.int IntKind.i64 0)]):=⟨Tryz.t106,#[(Field.mk "Key" 3 0 false "" "" 0),(Field.mk "Count" 3 1 false "" "" 8),(Field.mk "Last" 3 2 false "" "" 16)],by kernel_rfl,by kernel_rfl,by kernel_rfl,by kernel_rfl,by kernel_rfl,by kernel_rfl,fun n f h=>by
  match n with
  | 0=>injection h with h; subst h; exact ⟨Tryz.t3,by kernel_rfl,by kernel_rfl,_,Tryz.underlying3,fun _=>rfl⟩
  | 1=>injection h with h; subst h; exact ⟨Tryz.t3,by kernel_rfl,by kernel_rfl,_,Tryz.underlying3,fun _=>rfl⟩
  | 2=>injection h with h; subst h; exact ⟨Tryz.t3,by kernel_rfl,by kernel_rfl,_,Tryz.underlying3,fun _=>rfl⟩
  | n+3=>simp at h⟩
theorem tab107:InfOK Tryz.prog 107 (.sc (Value.nilFunc)):=⟨Tryz.t107,(TypeDesc.func #[67] #[3] false),by kernel_rfl,by kernel_rfl,by kernel_rfl,by kernel_rfl,by kernel_rfl,by kernel_rfl,by first | kernel_rfl | exact ⟨_,rfl⟩ | trivial⟩
theorem tab108:InfOK Tryz.prog 108 (.sc (Value.nilFunc)):=⟨Tryz.t108,(TypeDesc.func #[71] #[4] false),by kernel_rfl,by kernel_rfl,by kernel_rfl,by kernel_rfl,by kernel_rfl,by kernel_rfl,by first | kernel_rfl | exact ⟨_,rfl⟩ | trivial⟩
theorem tab109:InfOK Tryz.prog 109 (.sc (Value.nilFunc)):=⟨Tryz.t109,(TypeDesc.func #[71,4] #[71] false),by kernel_rfl,by kernel_rfl,by kernel_rfl,by kernel_rfl,by kernel_rfl,by kernel_rfl,by first | kernel_rfl | exact ⟨_,rfl⟩ | trivial⟩
theorem tab110:InfOK Tryz.prog 110 (.sc (Value.nilFunc)):=⟨Tryz.t110,(TypeDesc.func #[71,3] #[71] false),by kernel_rfl,by kernel_rfl,by kernel_rfl,by kernel_rfl,by kernel_rfl,by kernel_rfl,by first | kernel_rfl | exact ⟨_,rfl⟩ | trivial⟩
theorem tab111:InfOK Tryz.prog 111 (.sc (Value.nilFunc)):=⟨Tryz.t111,(TypeDesc.func #[29,3,29] #[3] false),by kernel_rfl,by kernel_rfl,by kernel_rfl,by kernel_rfl,by kernel_rfl,by kernel_rfl,by first | kernel_rfl | exact ⟨_,rfl⟩ | trivial⟩
theorem tab114:InfOK Tryz.prog 114 (.sc (Value.nilFunc)):=⟨Tryz.t114,(TypeDesc.func #[9,5] #[3] false),by kernel_rfl,by kernel_rfl,by kernel_rfl,by kernel_rfl,by kernel_rfl,by kernel_rfl,by first | kernel_rfl | exact ⟨_,rfl⟩ | trivial⟩
theorem tab115:InfOK Tryz.prog 115 (.sc (Value.nilIface)):=⟨Tryz.t115,(TypeDesc.interface #[("Error",141)]),by kernel_rfl,by kernel_rfl,by kernel_rfl,by kernel_rfl,by kernel_rfl,by kernel_rfl,by first | kernel_rfl | exact ⟨_,rfl⟩ | trivial⟩
theorem tab116:InfOK Tryz.prog 116 (.sc (Value.nilIface)):=⟨Tryz.t116,(TypeDesc.interface #[("Error",141)]),by kernel_rfl,by kernel_rfl,by kernel_rfl,by kernel_rfl,by kernel_rfl,by kernel_rfl,by first | kernel_rfl | exact ⟨_,rfl⟩ | trivial⟩
theorem tab118:InfOK Tryz.prog 118 (.sc (Value.nilFunc)):=⟨Tryz.t118,(TypeDesc.func #[9] #[3,116] false),by kernel_rfl,by kernel_rfl,by kernel_rfl,by kernel_rfl,by kernel_rfl,by kernel_rfl,by first | kernel_rfl | exact ⟨_,rfl⟩ | trivial⟩
theorem tab119:InfOK Tryz.prog 119 (.sc (Value.nilFunc)):=⟨Tryz.t119,(TypeDesc.func #[3] #[4] false),by kernel_rfl,by kernel_rfl,by kernel_rfl,by kernel_rfl,by kernel_rfl,by kernel_rfl,by first | kernel_rfl | exact ⟨_,rfl⟩ | trivial⟩
theorem tab121:InfOK Tryz.prog 121 (.sc (Value.nilFunc)):=⟨Tryz.t121,(TypeDesc.func #[32,78] #[32] false),by kernel_rfl,by kernel_rfl,by kernel_rfl,by kernel_rfl,by kernel_rfl,by kernel_rfl,by first | kernel_rfl | exact ⟨_,rfl⟩ | trivial⟩
theorem tab136:InfOK Tryz.prog 136 (.sc (Value.nilFunc)):=⟨Tryz.t136,(TypeDesc.func #[67,3] #[67,4] false),by kernel_rfl,by kernel_rfl,by kernel_rfl,by kernel_rfl,by kernel_rfl,by kernel_rfl,by first | kernel_rfl | exact ⟨_,rfl⟩ | trivial⟩
theorem tab162:InfOK Tryz.prog 162 (.sc (Value.nilFunc)):=⟨Tryz.t162,(TypeDesc.func #[29,3] #[29,4] false),by kernel_rfl,by kernel_rfl,by kernel_rfl,by kernel_rfl,by kernel_rfl,by kernel_rfl,by first | kernel_rfl | exact ⟨_,rfl⟩ | trivial⟩
theorem tab180:InfOK Tryz.prog 180 (.sc (Value.nilFunc)):=⟨Tryz.t180,(TypeDesc.func #[106] #[4] false),by kernel_rfl,by kernel_rfl,by kernel_rfl,by kernel_rfl,by kernel_rfl,by kernel_rfl,by first | kernel_rfl | exact ⟨_,rfl⟩ | trivial⟩
theorem tab185:InfOK Tryz.prog 185 (.sc (Value.nilFunc)):=⟨Tryz.t185,(TypeDesc.func #[106,106] #[3] false),by kernel_rfl,by kernel_rfl,by kernel_rfl,by kernel_rfl,by kernel_rfl,by kernel_rfl,by first | kernel_rfl | exact ⟨_,rfl⟩ | trivial⟩
theorem tab187:InfOK Tryz.prog 187 (.sc ((Value.pointer none))):=⟨Tryz.t187,(TypeDesc.pointer 71),by kernel_rfl,by kernel_rfl,by kernel_rfl,by kernel_rfl,by kernel_rfl,by kernel_rfl,by first | kernel_rfl | exact ⟨_,rfl⟩ | trivial⟩
theorem tab200:InfOK Tryz.prog 200 (.sl2 29 .int):=⟨Tryz.t29,by kernel_rfl,by kernel_rfl,by kernel_rfl,by kernel_rfl,⟨3,Tryz.t3,by kernel_rfl,by kernel_rfl,by kernel_rfl⟩,⟨by decide,by decide⟩,Tryz.t200,by kernel_rfl,by kernel_rfl,by kernel_rfl⟩
theorem tab1000077:InfOK Tryz.prog 1000077 (.eq 77 [.int,.int,.bool]):=⟨by kernel_rfl,by kernel_rfl,by kernel_rfl,by
  rw [show (Tryz.prog.fieldsOf 77).toList=[(Field.mk "Key" 3 0 false "" "" 0),(Field.mk "Value" 3 1 false "" "" 8),(Field.mk "Dirty" 4 2 false "" "" 16)] by kernel_rfl]
  exact ⟨by decide,rfl,.inl ⟨rfl,Tryz.underlying3⟩,by decide,rfl,.inl ⟨rfl,Tryz.underlying3⟩,by decide,rfl,.inr ⟨rfl,Tryz.underlying4⟩,trivial⟩⟩
theorem tab1000078:InfOK Tryz.prog 1000078 (.eq 78 [.int,.int,.bool]):=⟨by kernel_rfl,by kernel_rfl,by kernel_rfl,by
  rw [show (Tryz.prog.fieldsOf 78).toList=[(Field.mk "Key" 3 0 false "" "" 0),(Field.mk "Value" 3 1 false "" "" 8),(Field.mk "Dirty" 4 2 false "" "" 16)] by kernel_rfl]
  exact ⟨by decide,rfl,.inl ⟨rfl,Tryz.underlying3⟩,by decide,rfl,.inl ⟨rfl,Tryz.underlying3⟩,by decide,rfl,.inr ⟨rfl,Tryz.underlying4⟩,trivial⟩⟩
theorem tab1000105:InfOK Tryz.prog 1000105 (.eq 105 [.int,.int,.int]):=⟨by kernel_rfl,by kernel_rfl,by kernel_rfl,by
  rw [show (Tryz.prog.fieldsOf 105).toList=[(Field.mk "Key" 3 0 false "" "" 0),(Field.mk "Count" 3 1 false "" "" 8),(Field.mk "Last" 3 2 false "" "" 16)] by kernel_rfl]
  exact ⟨by decide,rfl,.inl ⟨rfl,Tryz.underlying3⟩,by decide,rfl,.inl ⟨rfl,Tryz.underlying3⟩,by decide,rfl,.inl ⟨rfl,Tryz.underlying3⟩,trivial⟩⟩
theorem tab1000106:InfOK Tryz.prog 1000106 (.eq 106 [.int,.int,.int]):=⟨by kernel_rfl,by kernel_rfl,by kernel_rfl,by
  rw [show (Tryz.prog.fieldsOf 106).toList=[(Field.mk "Key" 3 0 false "" "" 0),(Field.mk "Count" 3 1 false "" "" 8),(Field.mk "Last" 3 2 false "" "" 16)] by kernel_rfl]
  exact ⟨by decide,rfl,.inl ⟨rfl,Tryz.underlying3⟩,by decide,rfl,.inl ⟨rfl,Tryz.underlying3⟩,by decide,rfl,.inl ⟨rfl,Tryz.underlying3⟩,trivial⟩⟩
theorem tabOK:TabOK Tryz.prog TT:=tabOK_of ⟨tab1,tab2,tab3,tab4,tab5,tab9,tab10,tab20,tab22,tab24,tab28,tab29,tab30,tab32,tab34,tab37,tab42,tab46,tab47,tab48,tab50,tab52,tab53,tab55,tab56,tab58,tab62,tab64,tab67,tab70,tab71,tab77,tab78,tab84,tab86,tab89,tab93,tab97,tab98,tab99,tab100,tab101,tab102,tab103,tab104,tab105,tab106,tab107,tab108,tab109,tab110,tab111,tab114,tab115,tab116,tab118,tab119,tab121,tab136,tab162,tab180,tab185,tab187,tab200,tab1000077,tab1000078,tab1000105,tab1000106,trivial⟩
theorem mixed : Tryz.prog.follows .mixedOrders = true := by kernel_rfl
end Go.Ev
