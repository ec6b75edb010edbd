/- A range over slices.Backward of a slice of numbers, whose body writes to what the function owns. No statement is proved here. -/
import Derived.Test.YtemhpncmhdcheabDoorEvX
namespace Go.Ev
set_option linter.unusedVariables false
set_option linter.unusedSimpArgs false
open Go

section
variable {P : Program} {T : Tab} {N : Nat} {w0 : World} {M : Nat → Prop} {W : Wd} {lk : List Nat} {μ : Mu} {st : St} {a : Act} {w w' : World} {Γ : Cons} {S : Sk}

/-! ## What is no cells may turn -/
def KeepC (w w' : World) : Prop := w.heap.size ≤ w'.heap.size ∧ ∀ (b : Nat) (obj : Obj), w.heap[b]? = some obj → obj.isCells = true → w'.heap[b]? = some obj
theorem KeepC.cell (h : KeepC w w') {b o : Nat} {y : Value} (hc : w.cell? ⟨b, o, none⟩ = some y) : w'.cell? ⟨b, o, none⟩ = some y := by
  obtain ⟨obj, h1, h2⟩ := cells_of_cell hc
  rw [← hc]; exact cell_heap ((h.2 b obj h1 h2).trans h1.symm)
theorem Ro.keepC {A : Option Addr} {n c : Nat} {τ : Ty} {l : List τ.D} (h : Ro w A n c τ l) (hk : KeepC w w') : Ro w' A n c τ l := by
  obtain ⟨h1, h2, h3, h4⟩ := h
  refine ⟨h1, h2, h3, h4.imp id fun ⟨a, e, hr⟩ => ⟨a, e, fun hn => ?_⟩⟩
  obtain ⟨b, o, e2, hc⟩ := hr hn
  exact ⟨b, o, e2, fun i x hx j y hy => hk.cell (hc i x hx j y hy)⟩
theorem RoAt.keepC {τ : Ty} {l : List τ.D} {y : Value} (h : RoAt S μ w τ l y) (hk : KeepC w w') : RoAt S μ w' τ l y := by
  obtain ⟨A, n, c, e, h1, h2⟩ := h
  exact ⟨A, n, c, e, h1.keepC hk, h2⟩
theorem PeAt.keepC {cells : List Value} {j : Nat} {y : Value} (h : PeAt S μ w cells j y) (hk : KeepC w w') : PeAt S μ w' cells j y := by
  obtain ⟨b, o, e, h1, h2, h3, h4⟩ := h
  exact ⟨b, o, e, fun q x hx => hk.cell (h1 q x hx), Nat.lt_of_lt_of_le h2 hk.1, h3, h4⟩
theorem RC.keepC {c : C} {y : Value} (h : RC S μ w c y) (hk : KeepC w w') : RC S μ w' c y := by
  cases c with
  | ro τ l => exact RoAt.keepC h hk
  | pe cells j => exact PeAt.keepC h hk
  | cl f cs =>
    obtain ⟨ps, e, h1, h2⟩ := h
    refine ⟨ps, e, h1, fun i x p hx hp => ?_⟩
    have := h2 i x p hx hp
    cases x with
    | k x => exact PeAt.keepC this hk
    | b k => exact this
    | v x => exact this
  | rol τ ls =>
    obtain ⟨A, n, c, e, h1, h2, h3, h4⟩ := h
    refine ⟨A, n, c, e, h1, h2, h3, fun hn => ?_⟩
    obtain ⟨b, o, e1, e2, e3, e4⟩ := h4 hn
    refine ⟨b, o, e1, e2, Nat.lt_of_lt_of_le e3 hk.1, fun i l hl => ?_⟩
    obtain ⟨y, y1, y2⟩ := e4 i l hl
    exact ⟨y, hk.cell y1, y2.keepC hk⟩
  | pel τ l =>
    obtain ⟨b, o, z, e, e1, e2, e3, e4⟩ := h
    exact ⟨b, o, z, e, e1, Nat.lt_of_lt_of_le e2 hk.1, hk.cell e3, e4.keepC hk⟩
  | _ => exact h
theorem RO.keepC {k : Nat} {ob : OB} (h : RO S μ w k ob) (hk : KeepC w w') : RO S μ w' k ob := by
  cases ob with
  | row τ l => exact h.imp id fun ⟨g, o, s, cur, ty, h1, h2, h3⟩ => ⟨g, o, s, cur, ty, h1, hk.2 g _ h2 rfl, h3⟩
  | box cs =>
    obtain ⟨g, o, s, cur, ty, h1, h2, h3, h4, h5⟩ := h
    exact ⟨g, o, s, cur, ty, h1, hk.2 g _ h2 rfl, h3, h4, RCs.imp (fun c y h => h.keepC hk) h5⟩
theorem RepM.keepC (hR : RepM N w0 M W lk μ st a w) (hk : KeepC w w') (hf : Fr M w0 w') : RepM N w0 M W lk μ st a w' :=
  ⟨hR.df, hR.sz, fun i => RA.imp (fun c y h => h.keepC hk) (hR.tm i), fun k ob h => (hR.ob k ob h).keepC hk, hR.inj, hf, hR.wr, hR.ok, hR.up, hR.tr, hR.fo, hR.hh⟩
theorem keepC_grown {row : Option Nat} (hg : w.grownBy w' row) (hr : ∀ r, row = some r → ∃ o : Obj, w.heap[r]? = some o ∧ o.isCells = false) : KeepC w w' :=
  ⟨hg.size, fun b obj h1 h2 => (hg.block b (Array.getElem?_eq_some_iff.1 h1).1 (fun e => by
    obtain ⟨o, h3, h4⟩ := hr b e.symm
    rw [h1] at h3; cases h3; rw [h2] at h4; cases h4)).trans h1⟩
theorem fr_grown2 (h : Fr M w0 w) {row : Option Nat} (hg : w.grownBy w' row) (hr : ∀ r, row = some r → w0.heap.size ≤ r) : Fr M w0 w' := by
  obtain ⟨g1, g2, g3, g4, g5⟩ := hg
  refine ⟨g1.trans h.os, g2.trans h.tape, g3.trans h.output, Nat.le_trans h.size g4, fun b hb hn => ?_⟩
  refine (g5 b (Nat.lt_of_lt_of_le hb h.size) fun e => ?_).trans (h.blk b hb hn)
  have := hr b e.symm
  omega

/-! ## The world of a round as a beginning -/
def W1of (w : World) (S : Sk) (μ : Mu) (W : Wd) : Wd := ⟨fun k b => (liveM [] S μ b ∨ w.heap.size ≤ b) ∧ W k b, W.hi, W.fo, W.sk, W.fr⟩
theorem base_in (hR : RepM N w0 M W [] μ st a w) : RepM N w (liveM [] (skel st.o) μ) (W1of w (skel st.o) μ W) [] μ st a w :=
  ⟨hR.df, hR.sz, hR.tm, hR.ob, hR.inj, Fr.refl _ w, fun k p h1 h2 h3 => .inl ⟨k, p, h1, h2, h3, rfl⟩, fun k p h1 h2 => ⟨.inl ⟨k, p, h1, rfl, h2, rfl⟩, hR.ok k p h1 h2⟩,
    ⟨fun k b h => ⟨.inr h, hR.up.1 k b (by have := hR.fr.size; omega)⟩, hR.up.2.keep hR.fr fun b hb => hR.liveM_le hb⟩, fun k k' b hk hb => ⟨hb.1, hR.tr k k' b hk hb.2⟩, fun k b hk hb => hR.fo k b hk hb.2, hR.hh⟩
theorem base_out (hR : RepM N w0 M W [] μ st a w) {μ' : Mu} {st' : St} {a' : Act} {w' : World} (h' : RepM N w (liveM [] (skel st.o) μ) (W1of w (skel st.o) μ W) [] μ' st' a' w') : RepM N w0 M W [] μ' st' a' w' := by
  refine ⟨h'.df, h'.sz, h'.tm, h'.ob, h'.inj, hR.fr.join h'.fr fun b hb => hR.liveM_le hb, fun k p h1 h2 h3 => ?_, fun k p h1 h2 => (h'.ok k p h1 h2).2, hR.up, hR.tr, fun k b h1 hb => ?_, h'.hh⟩
  · rcases (h'.ok k p h1 h3).1 with h | h
    · exact hR.liveM_le h
    · exact .inr (by have := hR.fr.size; omega)
  · have e : μ'.fo = W.fo := h'.hh.2.1
    rw [e]
    have := hR.fo k b h1 hb
    rw [hR.hh.2.1] at this
    exact this

/-! ## The slots of the function that goes on lie beside those of the round -/
def lowSl (N : Nat) : List (Nat × AV) → List (Nat × AV)
  | [] => []
  | (i, x) :: r => match Nat.blt i N with
    | true => (i, x) :: lowSl N r
    | false => lowSl N r
def rndSt (N : Nat) (st : St) : St := ⟨lowSl N st.t ++ inT N st.t, st.o⟩
theorem lkp_lowSl (N : Nat) : ∀ (t : List (Nat × AV)) (i : Nat), lkp (lowSl N t) i = if i < N then lkp t i else none
  | [], i => by simp [lowSl, lkp]
  | (j, x) :: r, i => by
    have ih := lkp_lowSl N r i
    unfold lowSl
    cases hb : Nat.blt j N with
    | true =>
      simp only
      have hj := nblt' hb
      rcases beq_cases j i with ⟨rfl, _⟩ | ⟨hne, _⟩
      · rw [lkp_cons_same, lkp_cons_same, if_pos hj]
      · rw [lkp_cons_ne _ _ hne, lkp_cons_ne _ _ hne, ih]
    | false =>
      simp only
      have hj := nblt hb
      rw [ih]
      by_cases h : i < N
      · rw [if_pos h, if_pos h, lkp_cons_ne _ _ (by omega)]
      · rw [if_neg h, if_neg h]
theorem get_rndSt (hN : N ≤ 1000000) (st : St) (i : Nat) : (rndSt N st).get i = if i < N then st.get i else if i < 1000000 then .one (.c .un) else st.get (if i - 1000000 < N then i - 1000000 else i - N) := by
  rw [get_eq, rndSt, lkp_append, lkp_lowSl, lkp_inT hN]
  by_cases h : i < N
  · rw [if_pos h, if_pos h, if_pos (by omega), get_eq]
    cases lkp st.t i <;> rfl
  · rw [if_neg h, if_neg h]
    by_cases h2 : i < 1000000
    · rw [if_pos h2, if_pos h2]; rfl
    · rw [if_neg h2, if_neg h2, get_eq]
def pushW (N : Nat) (W : Wd) (tm : Array Value) : Wd := ⟨W.f, W.hi, W.fo, W.sk, fun i => if i < N then tm.getD i undef else W.fr (i - N)⟩
theorem push_ok (hR : RepM N w0 M W lk μ st a w) : RepM N w0 M (pushW N W a.tmps) lk μ (rndSt N st) a w := by
  have hN := hR.sz.2
  refine ⟨hR.df, hR.sz, fun i => ?_, hR.ob, hR.inj, hR.fr, hR.wr, hR.ok, hR.up, hR.tr, hR.fo, hR.hh⟩
  rw [get_rndSt hN]
  by_cases h : i < N
  · rw [if_pos h]
    have := hR.tm i
    rw [vAt, if_pos (by omega)] at this ⊢
    exact this
  · rw [if_neg h]
    by_cases h2 : i < 1000000
    · rw [if_pos h2]; trivial
    · rw [if_neg h2]
      have ht := hR.tm (if i - 1000000 < N then i - 1000000 else i - N)
      have hv : vAt (pushW N W a.tmps).fr a.tmps i = vAt W.fr a.tmps (if i - 1000000 < N then i - 1000000 else i - N) := by
        rw [vAt, if_neg h2]
        show (if i - 1000000 < N then a.tmps.getD (i - 1000000) undef else W.fr (i - 1000000 - N)) = _
        by_cases h3 : i - 1000000 < N
        · rw [if_pos h3, if_pos h3, vAt, if_pos (by omega)]
        · rw [if_neg h3, if_neg h3, vAt, if_neg (by omega), Nat.sub_right_comm]
      rw [hv]; exact ht
theorem pop_ok {a0 : Act} (hdf : a0.defers = []) (hsz : a0.tmps.size = N ∧ N ≤ 1000000) (hR : RepM N w0 M (pushW N W a0.tmps) lk μ st a w) : RepM N w0 M W lk μ ⟨outT N st.t, st.o⟩ a0 w := by
  refine ⟨hdf, hsz, fun i => ?_, hR.ob, hR.inj, hR.fr, hR.wr, hR.ok, hR.up, hR.tr, hR.fo, hR.hh⟩
  have hg : St.get ⟨outT N st.t, st.o⟩ i = (if i < N then lkp st.t (1000000 + i) else if i < 1000000 then none else lkp st.t (i + N)).getD (.one (.c .un)) := by
    rw [get_eq, lkp_outT hsz.2]
  rw [hg]
  by_cases h1 : i < N
  · rw [if_pos h1]
    have ht := hR.tm (1000000 + i)
    rw [get_eq] at ht
    have hv : vAt (pushW N W a0.tmps).fr a.tmps (1000000 + i) = vAt W.fr a0.tmps i := by
      rw [vAt, if_neg (by omega), vAt, if_pos (by omega)]
      show (if 1000000 + i - 1000000 < N then a0.tmps.getD (1000000 + i - 1000000) undef else W.fr (1000000 + i - 1000000 - N)) = _
      rw [Nat.add_sub_cancel_left, if_pos h1]
    rw [hv] at ht; exact ht
  · rw [if_neg h1]
    by_cases h2 : i < 1000000
    · rw [if_pos h2]; trivial
    · rw [if_neg h2]
      have ht := hR.tm (i + N)
      rw [get_eq] at ht
      have hv : vAt (pushW N W a0.tmps).fr a.tmps (i + N) = vAt W.fr a0.tmps i := by
        rw [vAt, if_neg (by omega), vAt, if_neg h2]
        show (if i + N - 1000000 < N then a0.tmps.getD (i + N - 1000000) undef else W.fr (i + N - 1000000 - N)) = _
        rw [if_neg (by omega), Nat.sub_right_comm, Nat.add_sub_cancel]
      rw [hv] at ht; exact ht
end

/-! ## The rule -/
def bwR (g o : Nat) (l : List Int) (w : World) : Prop := ∃ A n c, w.cell? ⟨g, o, none⟩ = some (.slice A n c) ∧ Ro w A n c .int l
/-- A function that slices.Backward returns. -/
def BwOK (P : Program) (f : FuncId) : Prop := (∀ args w, (callFunc f args).run P w = .ok (.enter f args) w) ∧ ∀ (g o : Nat) (l : List Int) (n : Nat) (w : World), bwR g o l w →
  SeqStopsK Fence.wide n P f #[.pointer (some ⟨g, o, none⟩)] (fun i : { i : Nat // i < l.length } => #[.int .i64 (i.1 : Int), .int .i64 (l.getD i.1 0)]) (fun A B => bwR g o l A → bwR g o l B) (fun xs => xs.map Subtype.val = downN l.length) (fun _ => True) l.length w
def asg1 (p : Nat) : Code → Option Nat
  | .region _ ops false => match ops.toList with
    | [o] => match o.dst, o.op, o.guard with
      | some q, .assign (.tmp s), none => match Nat.beq s p with
        | true => some q
        | false => none
      | _, _, _ => none
    | _ => none
  | _ => none
def asg2 (p0 p1 : Nat) : Code → Option (Nat × Nat)
  | .seq x y => match asg1 p0 x, asg1 p1 y with
    | some q0, some q1 => some (q0, q1)
    | _, _ => none
  | _ => none
def slotsOK (N p0 p1 q0 q1 : Nat) : Bool := match Nat.blt p0 N, Nat.blt p1 N, Nat.blt q0 N, Nat.blt q1 N, Nat.beq p0 p1, Nat.beq q0 p1 with
  | true, true, true, true, false, false => true
  | _, _, _, _, _, _ => false
/-- The end of a round. -/
def rndE (N : Nat) (nm : List NStep) (K : St → Prop) : Kt := fun e st => match e with
  | .normal => match norm nm ⟨outT N st.t, st.o⟩ with
    | some st' => K st'
    | none => False
  | _ => False
def rndB (N p0 p1 q0 q1 : Nat) (i x : Int) (st : St) : St := ((((rndSt N st).put p0 (VI i)).put p1 (VI x)).put q0 (VI i)).put q1 (VI x)
structure BwRule (T : Tab) (Γ : Cons) (N : Nat) (an : Ann) (bw : List FuncId) (g : Operand) (p0 p1 q0 q1 : Nat) (body : Code) (nm : List NStep) (st : St) (k : Kt) : Prop where
  out : ∃ (α : Type) (S : α → St) (I : List Nat → α → Prop) (a0 : α) (f kb : Nat) (l : List Int), st = S a0 ∧ memN bw f = true ∧
    (∀ a, (S a).ev g = .one (.c (.cl f [.b kb])) ∧ lkp (S a).o kb = some (.box [.ro .int l])) ∧ I [] a0 ∧
    (∀ (pre : List Nat) (i : Nat) (a : α) (K : St → Prop), i < l.length → pre.length < l.length → I pre a → (∀ a', I (pre ++ [i]) a' → K (S a')) →
      ev T Γ N an body (rndB N p0 p1 q0 q1 (i : Int) (l.getD i 0) (S a)) (rndE N nm K)) ∧
    ∀ a, I (downN l.length) a → k .normal (S a)
/-! ## A range over the words of a text -/
/-- A text cut at a byte. -/
def wordsB (c : UInt8) : List UInt8 → List (List UInt8)
  | [] => [[]]
  | x :: r => if x = c then [] :: wordsB c r else match wordsB c r with
    | [] => [[x]]
    | w :: ws => (x :: w) :: ws
def words (c : UInt8) (s : ByteArray) : List ByteArray := (wordsB c s.data.toList).map fun l => ⟨l.toArray⟩
/-- A function that strings.SplitSeq returns: it has captured what it cuts at, the text (and writes to it), and a number. -/
def SqOK (P : Program) (f : FuncId) : Prop := (∀ args w, (callFunc f args).run P w = .ok (.enter f args) w) ∧
  ∀ (b1 o1 b2 o2 b3 o3 : Nat) (c : UInt8) (s : ByteArray) (n l : Nat) (J : List ByteArray → ByteArray → World → Prop) (Jx : World → Prop) (W : World), s.size ≤ 1000000000 →
    (∀ pre s1 A, J pre s1 A → A.cell? ⟨b1, o1, none⟩ = some (.string ⟨#[c]⟩) ∧ A.cell? ⟨b3, o3, none⟩ = some (.int .i64 0) ∧ ∃ cur ty, A.heap[b2]? = some (.cells cur ty (0, 0)) ∧ cur[o2]? = some (.string s1)) →
    (∀ pre s1 s2 A, J pre s1 A → J pre s2 (A.setCell ⟨b2, o2, none⟩ (.string s2))) →
    (∀ pre x s1 A, J pre s1 A → pre ++ [x] <+: words c s → YieldAt Fence.wide (n - 1) P l #[.string x] A fun e A' => (e = .returned (.bool true) ∧ J (pre ++ [x]) s1 A') ∨ (e = .returned (.bool false) ∧ Jx A')) →
    J [] s W → CallsIn Fence.wide n P f #[.func (.yield l) #[] #[], .pointer (some ⟨b1, o1, none⟩), .pointer (some ⟨b2, o2, none⟩), .pointer (some ⟨b3, o3, none⟩)] W fun e W' => (∃ v, e = .returned v) ∧ ((∃ s', J (words c s) s' W') ∨ Jx W')
/-- The end of a round that may leave the function. -/
def rndX (N : Nat) (nm : List NStep) (K : St → Prop) (k : Kt) : Kt := fun e st => match e with
  | .normal => match norm nm ⟨outT N st.t, st.o⟩ with
    | some st' => K st'
    | none => False
  | .ret => k .ret ⟨outT N st.t, st.o⟩
  | _ => False
def rnd1 (N p0 q0 : Nat) (x : ByteArray) (st : St) : St := ((rndSt N st).put p0 (V (.string x))).put q0 (V (.string x))
structure SqRule (T : Tab) (Γ : Cons) (N : Nat) (an : Ann) (sq : List FuncId) (g : Operand) (p0 q0 : Nat) (body : Code) (nm : List NStep) (st : St) (k : Kt) : Prop where
  out : ∃ (α : Type) (S : α → ByteArray → St) (I : List ByteArray → α → Prop) (a0 : α) (f kb : Nat) (c : UInt8) (s : ByteArray), st = S a0 s ∧ memN sq f = true ∧ s.size ≤ 1000000000 ∧
    (∀ a s, (S a s).ev g = .one (.c (.cl f [.k (.string ⟨#[c]⟩), .b kb, .k (.int .i64 0)])) ∧ lkp (S a s).o kb = some (.box [.v (.string s)])) ∧
    (∀ a s s', (⟨(S a s).t, setO kb (.box [.v (.string s')]) (S a s).o⟩ : St) = S a s') ∧ I [] a0 ∧
    (∀ (pre : List ByteArray) (x : ByteArray) (a : α) (s1 : ByteArray) (K : St → Prop), pre ++ [x] <+: words c s → I pre a → (∀ a', I (pre ++ [x]) a' → K (S a' s1)) →
      ev T Γ N an body (rnd1 N p0 q0 x (S a s1)) (rndX N nm K k)) ∧
    ∀ a s1, I (words c s) a → k .normal (S a s1)
def evX (T : Tab) (Γ : Cons) (N : Nat) (an : Ann) (bw sq : List FuncId) : Code → St → Kt → Prop
  | .seq x y, st, k => evX T Γ N an bw sq x st (seqK (fun st k => evX T Γ N an bw sq y st k) k)
  | .block id c, st, k => evX T Γ N an bw sq c st (blockK id k)
  | .rangeFunc g ps asg body, st, k => match ps.toList, lkp an.nm (firstReg asg), plansOK an body, noDefC body with
    | [p0, p1], some nm, true, true => match asg2 p0 p1 asg with
      | some (q0, q1) => match slotsOK N p0 p1 q0 q1 with
        | true => match norm nm st with
          | some st' => BwRule T Γ N an bw g p0 p1 q0 q1 body nm st' k
          | none => False
        | false => False
      | none => False
    | [p0], some nm, true, true => match asg1 p0 asg with
      | some q0 => match Nat.blt p0 N, Nat.blt q0 N with
        | true, true => match norm nm st with
          | some st' => SqRule T Γ N an sq g p0 q0 body nm st' k
          | none => False
        | _, _ => False
      | none => False
    | _, _, _, _ => False
  | c, st, k => ev T Γ N an c st k
end Go.Ev
