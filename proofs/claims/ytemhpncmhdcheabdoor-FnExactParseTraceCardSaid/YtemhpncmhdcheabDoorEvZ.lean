/- A range over slices.Backward does in the machine what is said of it. No statement is proved here. -/
import Derived.Test.YtemhpncmhdcheabDoorEvY
namespace Go.Ev
set_option linter.unusedVariables false
set_option linter.unusedSimpArgs false
open Go

section
variable {P : Program} {T : Tab} {N : Nat} {w0 : World} {M : Nat → Prop} {W : Wd} {lk : List Nat} {μ : Mu} {st : St} {a : Act} {w w' : World} {Γ : Cons} {S : Sk}

def dsOf (Ds : List Nat) : List Deferred := Ds.map fun D => { target := .collected D, args := #[] }
/-- The marks of loops that are over: they lie, and nobody writes there. -/
def DsOK (w0 : World) (M : Nat → Prop) (Ds : List Nat) : Prop := Ds.Nodup ∧ ∀ D ∈ Ds, w0.heap[D]? = some (.deferred (some [])) ∧ ¬ M D
/-- What holds behind: out of a later world, with the marks of the loops. -/
def QX (N : Nat) (w0 : World) (M : Nat → Prop) (W : Wd) (Ds : List Nat) (k : Kt) : Go.Exit → Act → World → Prop := fun e a2 w' =>
  ∃ (w1 : World) (M1 : Nat → Prop) (W1 : Wd) (Ds1 : List Nat) (a0 : Act), a2 = ext a0 (dsOf Ds1) ∧ DsOK w1 M1 Ds1 ∧ (∀ D ∈ Ds1, D ∈ Ds ∨ w0.heap.size ≤ D) ∧ w0.heap.size ≤ w1.heap.size ∧
    (∀ (μ : Mu) (st : St) (a : Act) (w' : World), RepM N w1 M1 W1 [] μ st a w' → RepM N w0 M W [] μ st a w') ∧ (∀ k b, W1 k b → M1 b ∨ w1.heap.size ≤ b) ∧ QOf N w1 M1 W1 k e a0 w'
theorem QX.of {k : Kt} {e : Go.Exit} {Ds : List Nat} (hW : ∀ k b, W k b → M b ∨ w0.heap.size ≤ b) (hD : DsOK w0 M Ds) (h : QOf N w0 M W k e a w) : QX N w0 M W Ds k e (ext a (dsOf Ds)) w :=
  ⟨w0, M, W, Ds, a, rfl, hD, fun D h => .inl h, Nat.le_refl _, fun _ _ _ _ h => h, hW, h⟩
theorem QX.trans {k : Kt} {e : Go.Exit} {Ds Ds1 : List Nat} {w1 : World} {M1 : Nat → Prop} {W1 : Wd} (hsub : ∀ D ∈ Ds1, D ∈ Ds ∨ w0.heap.size ≤ D) (hsz : w0.heap.size ≤ w1.heap.size)
    (hb : ∀ (μ : Mu) (st : St) (a : Act) (w' : World), RepM N w1 M1 W1 [] μ st a w' → RepM N w0 M W [] μ st a w') (h : QX N w1 M1 W1 Ds1 k e a w) : QX N w0 M W Ds k e a w := by
  obtain ⟨w2, M2, W2, Ds2, a0, e1, e2, e3, e4, e5, e6, e7⟩ := h
  refine ⟨w2, M2, W2, Ds2, a0, e1, e2, fun D hD => ?_, Nat.le_trans hsz e4, fun μ st a w' h => hb _ _ _ _ (e5 _ _ _ _ h), e6, e7⟩
  rcases e3 D hD with h | h
  · exact hsub D h
  · exact .inr (Nat.le_trans hsz h)

theorem asg1_in {F : Fence} (hF : WideF F) {n p q : Nat} {c : Code} (h : asg1 p c = some q) {Q : Go.Exit → Act → World → Prop} (hq : Q .normal (a.put (some q) (a.tmps.getD p undef)) w) : c.wpIn F n P Q a w := by
  unfold asg1 at h
  split at h
  rotate_left
  · cases h
  rename_i id ops
  split at h
  rotate_left
  · cases h
  rename_i o ho
  obtain ⟨dst, op, ty, pos, af, gd⟩ := o
  simp only at h
  split at h
  rotate_left
  · cases h
  rename_i q' s
  split at h
  rotate_left
  · cases h
  rename_i hb
  injection h with h
  subst h
  have hb := Nat.eq_of_beq_eq_true hb
  subst hb
  have e : ops = #[⟨some q', .assign (.tmp s), ty, pos, af, none⟩] := by apply Array.ext'; simpa using ho
  subst e
  refine wpIn_region ?_
  have hw : Region.wanted (⟨some q', .assign (.tmp s), ty, pos, af, none⟩ : Oper) (yielded #[⟨some q', .assign (.tmp s), ty, pos, af, none⟩] a.tmps) = true := rfl
  show wpOpsIn F n P #[⟨some q', .assign (.tmp s), ty, pos, af, none⟩] Q [0] a w
  simp only [wpOpsIn, List.getElem?_toArray, List.getElem?_cons_zero, hw, if_true]
  refine ⟨fun f _ => hF.fn f, ?_⟩
  have hx : (execOp a.eval (⟨some q', .assign (.tmp s), ty, pos, af, none⟩ : Oper)).run P w = .ok (.value (a.tmps.getD s undef)) w := by simp [execOp, Act.eval]
  rw [Oper.semAt_eq _ _ _ (fun c e => by cases e), hx]
  exact hq
theorem asg2_in {F : Fence} (hF : WideF F) {n p0 p1 q0 q1 : Nat} {c : Code} (h : asg2 p0 p1 c = some (q0, q1)) {K : Act → World → Prop}
    (hq : K ((a.put (some q0) (a.tmps.getD p0 undef)).put (some q1) ((a.put (some q0) (a.tmps.getD p0 undef)).tmps.getD p1 undef)) w) : c.wpIn F n P (Go.Exit.then K (fun _ _ _ => False)) a w := by
  unfold asg2 at h
  split at h
  rotate_left
  · cases h
  rename_i x y
  split at h
  rotate_left
  · cases h
  rename_i r0 r1 h0 h1
  injection h with h
  injection h with e0 e1
  subst e0; subst e1
  exact wpIn_seq (asg1_in hF h0 (asg1_in hF h1 hq))
theorem getD_sib_same {t : Array Value} {i : Nat} {v d : Value} (h : i < t.size) : (t.setIfInBounds i v).getD i d = v := by
  simp [Array.getD_eq_getD_getElem?, h]
theorem getD_sib_ne {t : Array Value} {i j : Nat} {v d : Value} (h : i ≠ j) : (t.setIfInBounds i v).getD j d = t.getD j d := by
  simp [Array.getD_eq_getD_getElem?, Array.getElem?_setIfInBounds_ne h]
theorem slots_iff {N p0 p1 q0 q1 : Nat} (h : slotsOK N p0 p1 q0 q1 = true) : p0 < N ∧ p1 < N ∧ q0 < N ∧ q1 < N ∧ p0 ≠ p1 ∧ q0 ≠ p1 := by
  unfold slotsOK at h
  split at h
  · rename_i h1 h2 h3 h4 h5 h6
    exact ⟨nblt' h1, nblt' h2, nblt' h3, nblt' h4, fun e => by subst e; simp at h5, fun e => by subst e; simp at h6⟩
  · cases h
theorem liveM_cells (hR : RepM N w0 M W lk μ st a w) {b : Nat} (h : liveM [] (skel st.o) μ b) : ∃ obj : Obj, w.heap[b]? = some obj ∧ obj.isCells = true := by
  obtain ⟨k, p, h1, _, h3, rfl⟩ := h
  obtain ⟨ob, hob⟩ := skel_some h1
  have := hR.ob k ob hob
  cases ob with
  | row τ l =>
    rcases this with ⟨e, _⟩ | ⟨g, o, s, cur, ty, e, e2, _⟩
    · rw [e] at h3; cases h3
    · rw [e] at h3; injection h3 with h3; subst h3; exact ⟨_, e2, rfl⟩
  | box cs =>
    obtain ⟨g, o, s, cur, ty, e, e2, _⟩ := this
    rw [e] at h3; injection h3 with h3; subst h3; exact ⟨_, e2, rfl⟩
/-- The box of the slice that is gone through. -/
theorem bwR_of (hR : RepM N w0 M W lk μ st a w) {kb g o s : Nat} {l : List Int} (hl : lkp st.o kb = some (.box [.ro .int l])) (hm : μ kb = some (g, o, s)) : bwR g o l w := by
  obtain ⟨g', o', s', cur, ty, e, e2, e3, e4, e5⟩ := hR.ob kb _ hl
  rw [hm] at e
  injection e with e; injection e with e1 e; injection e with e6 e7
  subst e1; subst e6; subst e7
  have hlen : o < cur.size := by simp at e4; omega
  cases hq : (cur.toList.drop o).take ([C.ro .int l] : List C).length with
  | nil => rw [hq] at e5; exact e5.elim
  | cons y r =>
    rw [hq] at e5
    obtain ⟨⟨A, n, c, hy, hr, _⟩, _⟩ := e5
    refine ⟨A, n, c, ?_, hr⟩
    have hy2 : cur[o]? = some y := by
      have h1 : ((cur.toList.drop o).take ([C.ro .int l] : List C).length)[0]? = some y := by rw [hq]; rfl
      rw [List.getElem?_take_of_lt (by simp), List.getElem?_drop] at h1
      simpa using h1
    rw [← hy]
    rw [cell_of_heap e2]; exact hy2
theorem bwR_keep {g o : Nat} {l : List Int} (hk : KeepC w w') (h : bwR g o l w) : bwR g o l w' := by
  obtain ⟨A, n, c, h1, h2⟩ := h
  exact ⟨A, n, c, hk.cell h1, h2.keepC hk⟩
/-- Where the captured box lies. -/
theorem cap_at (hR : RepM N w0 M W lk μ st a w) {g : Operand} {f kb : Nat} (hg : st.ev g = .one (.c (.cl f [.b kb]))) : ∃ gg oo ss, μ kb = some (gg, oo, ss) ∧ a.eval g = .func (.func f) #[] #[.pointer (some ⟨gg, oo, none⟩)] := by
  have h := RA_ev hR g
  rw [hg] at h
  obtain ⟨ps, e1, e2, e3⟩ := h
  match ps, e2 with
  | [p], _ =>
    obtain ⟨gg, oo, ss, _, hm, rfl⟩ := e3 0 (.b kb) p rfl rfl
    exact ⟨gg, oo, ss, hm, e1⟩
theorem rangeFunc_ok {an : Ann} {bw : List FuncId} (hN : Γ.B + 16 * N + 16 ≤ 100000) (hP : P.follows .mixedOrders = true) (hT : TabOK P T) (hΓ : ConsOK P N Γ) (hBw : ∀ f, memN bw f = true → BwOK P f) {g : Operand} {p0 p1 q0 q1 : Nat} {asg body : Code} {nm : List NStep} {k : Kt} {Ds : List Nat}
    (has : asg2 p0 p1 asg = some (q0, q1)) (hsl : slotsOK N p0 p1 q0 q1 = true) (hpl : plansOK an body = true) (hnd : noDefC body = true) (hD : DsOK w0 M Ds) (hR : RepM N w0 M W [] μ st a w)
    (h : BwRule T Γ N an bw g p0 p1 q0 q1 body nm st k) {n : Nat} (hn : 1 ≤ n) : (Code.rangeFunc g #[p0, p1] asg body).wpIn Fence.wide n P (QX N w0 M W Ds k) (ext a (dsOf Ds)) w := by
  obtain ⟨α, S, I, a0, f, kb, l, hnm, hbw, hS, hI0, hround, hdone⟩ := h.out
  subst hnm
  obtain ⟨μ1, hR1⟩ : ∃ μ1, RepM N w0 M W [] μ1 (S a0) a w := ⟨_, hR⟩
  obtain ⟨hB1, hB2⟩ := hBw f hbw
  obtain ⟨s1, s2, s3, s4, s5, s6⟩ := slots_iff hsl
  obtain ⟨gg, oo, ss, hm1, hcl⟩ := cap_at hR1 (hS a0).1
  have hbwR := bwR_of hR1 (hS a0).2 hm1
  have hsz := hR1.sz.1
  refine wpIn_rangeFunc_ownF (F := Fence.wide) (gf := f) (lb := #[.pointer (some ⟨gg, oo, none⟩)]) rfl hn (by rw [ext_eval]; exact hcl) trivial hB1 (hB2 gg oo l (n - 1) w hbwR) (fun h1 h2 h => h2 (h1 h)) ?hKb (Go.RowKit.Below.refl _ _) (fun _ => rfl)
    (fun pre W' => ∃ (b : α) (μ2 : Mu), RepM N w0 M W [] μ2 (S b) a W' ∧ I (pre.map Subtype.val) b) (fun _ _ _ => False) ?hJ (fun _ _ _ _ _ h => h.elim) ⟨a0, μ1, hR1, hI0⟩
    (fun x => (((a.put (some p0) (.int .i64 (x.1 : Int))).put (some p1) (.int .i64 (l.getD x.1 0))).put (some q0) (.int .i64 (x.1 : Int))).put (some q1) (.int .i64 (l.getD x.1 0))) ?assign ?body ?done ?stop
  case hKb =>
    intro W' l' o o' _ hl ho _ hb
    exact bwR_keep (keepC_grown (grownBy_putObj' W' l' o') (fun r e => by cases e; exact ⟨o, hl, ho⟩)) hb
  case hJ =>
    rintro s X Y row ⟨b, μ2, hR2, hI2⟩ hg hr
    exact ⟨b, μ2, hR2.keepC (keepC_grown hg fun r e => (hr r e).2) (fr_grown2 hR2.fr hg fun r e => Nat.le_trans hR1.fr.size (hr r e).1), hI2⟩
  case assign =>
    intro l' x W' K hK
    have ea : ({ tmps := ((#[p0, p1] : Array Tmp).zip #[.int .i64 (x.1 : Int), .int .i64 (l.getD x.1 0)]).foldl (fun t (p, v) => t.setIfInBounds p v) (ext a (dsOf Ds)).tmps, defers := [] } : Act) = (a.put (some p0) (.int .i64 (x.1 : Int))).put (some p1) (.int .i64 (l.getD x.1 0)) := by
      have hdf := hR1.df
      obtain ⟨tm, df⟩ := a
      simp only at hdf
      subst hdf
      simp [Act.put, ext]
    rw [ea]
    refine asg2_in (.inr ⟨l', rfl⟩) has ?_
    have v1 : ((a.put (some p0) (.int .i64 (x.1 : Int))).put (some p1) (.int .i64 (l.getD x.1 0))).tmps.getD p0 undef = .int .i64 (x.1 : Int) := by
      show ((a.tmps.setIfInBounds p0 _).setIfInBounds p1 _).getD p0 undef = _
      rw [getD_sib_ne (Ne.symm s5), getD_sib_same (by rw [hsz]; exact s1)]
    rw [v1]
    have v2 : (((a.put (some p0) (.int .i64 (x.1 : Int))).put (some p1) (.int .i64 (l.getD x.1 0))).put (some q0) (.int .i64 (x.1 : Int))).tmps.getD p1 undef = .int .i64 (l.getD x.1 0) := by
      show (((a.tmps.setIfInBounds p0 _).setIfInBounds p1 _).setIfInBounds q0 _).getD p1 undef = _
      rw [getD_sib_ne s6, getD_sib_same (by simp [hsz]; exact s2)]
    rw [v2]
    exact hK
  case body =>
    rintro l' pre x X ⟨b, μ2, hR2, hI2⟩ hlen
    have hPu := push_ok (base_in hR2)
    have h1 := put_ok hPu (d := p0) (x := VI (x.1 : Int)) (v := .int .i64 (x.1 : Int)) s1 rfl
    have h2 := put_ok h1 (d := p1) (x := VI (l.getD x.1 0)) (v := .int .i64 (l.getD x.1 0)) s2 rfl
    have h3 := put_ok h2 (d := q0) (x := VI (x.1 : Int)) (v := .int .i64 (x.1 : Int)) s3 rfl
    have h4 := put_ok h3 (d := q1) (x := VI (l.getD x.1 0)) (v := .int .i64 (l.getD x.1 0)) s4 rfl
    have hev := hround (pre.map Subtype.val) x.1 b (fun s => ∃ b', s = S b' ∧ I (pre.map Subtype.val ++ [x.1]) b') x.2 (by simpa using hlen) hI2 (fun b' hb' => ⟨b', rfl, hb'⟩)
    have hW2 : ∀ k d, (pushW N (W1of X (skel (S b).o) μ2 W) a.tmps) k d → liveM [] (skel (S b).o) μ2 d ∨ X.heap.size ≤ d := fun k d hd => hd.1
    have hwp := evIn_ok (F := Fence.wide.inRound l') (n := n - 1 - 1) (ds := []) hN hP hT hΓ hW2 (.inr ⟨l', rfl⟩) body hpl hnd h4 hev
    rw [ext_nil] at hwp
    refine wpIn_mono hwp fun e a' Y hq => ?_
    obtain ⟨a1, rfl, hq⟩ := hq
    cases e with
    | normal =>
      obtain ⟨st2, ⟨μ3, hR3⟩, hk⟩ := hq
      simp only [rndE] at hk
      split at hk
      · rename_i st3 hn3
        obtain ⟨b', rfl, hI3⟩ := hk
        have hback := base_out hR2 (pop_ok hR2.df hR2.sz hR3)
        obtain ⟨μ4, hR4⟩ := norm_ok nm hback hn3
        refine ⟨⟨hR3.fr.size, fun k o hk ho => ?_⟩, fun _ => ?_, b', μ4, hR4, by simpa using hI3⟩
        · refine (hR3.fr.blk k (Array.getElem?_eq_some_iff.1 hk).1 fun hl => ?_).trans hk
          obtain ⟨obj, g1, g2⟩ := liveM_cells hR2 hl
          rw [hk] at g1; cases g1; rw [ho] at g2; cases g2
        · obtain ⟨g2, o2, s2', hm2, hev2⟩ := cap_at hR4 (hS b').1
          have := bwR_of hR4 (hS b').2 hm2
          rw [hcl] at hev2
          simp at hev2
          obtain ⟨rfl, rfl⟩ := hev2
          exact this
      · exact hk.elim
    | exit id => obtain ⟨st2, _, hk⟩ := hq; exact hk.elim
    | ret => obtain ⟨st2, _, hk⟩ := hq; exact hk.elim
    | goto l => exact hq.elim
    | panic c => exact hq.elim
    | outgrown => exact hq.elim
  case done =>
    rintro D xs X hDsz hxs ⟨b, μ2, hR2, hI2⟩ hDe
    have hk := hdone b (by rw [← hxs]; exact hI2)
    have hnl : ∀ D' : Nat, X.heap[D']? = some (.deferred (some [])) → ¬ liveM [] (skel (S b).o) μ2 D' := fun D' hD' hl => by
      obtain ⟨obj, g1, g2⟩ := liveM_cells hR2 hl
      rw [hD'] at g1; cases g1; cases g2
    have hold : ∀ D' ∈ Ds, D' < w0.heap.size ∧ X.heap[D']? = some (.deferred (some [])) := fun D' hD' => by
      obtain ⟨g1, g2⟩ := hD.2 D' hD'
      have hlt := (Array.getElem?_eq_some_iff.1 g1).1
      exact ⟨hlt, (hR2.fr.blk D' hlt g2).trans g1⟩
    have hw := hR1.fr.size
    refine ⟨X, liveM [] (skel (S b).o) μ2, W1of X (skel (S b).o) μ2 W, D :: Ds, a, ?_, ⟨List.nodup_cons.2 ⟨fun hm => ?_, hD.1⟩, fun D' hD' => ?_⟩, fun D' hD' => ?_, hR2.fr.size, fun μ st a' w' h => base_out hR2 h, fun k b hb => hb.1, S b, ⟨μ2, base_in hR2⟩, hk⟩
    · simp [ext, dsOf, hR2.df]
    · have := (hold D hm).1; omega
    · rcases List.mem_cons.1 hD' with rfl | h
      · exact ⟨hDe, hnl _ hDe⟩
      · exact ⟨(hold D' h).2, hnl _ (hold D' h).2⟩
    · rcases List.mem_cons.1 hD' with rfl | h
      · exact .inr (by omega)
      · exact .inl h
  case stop =>
    intro D c pre X _ _ hf
    exact hf.elim
/-- What the captured cells are: what is cut at, the text, a number. -/
theorem cap3_at (hR : RepM N w0 M W lk μ st a w) {g : Operand} {f kb : Nat} {x y : Value} (hg : st.ev g = .one (.c (.cl f [.k x, .b kb, .k y]))) : ∃ b1 o1 b2 o2 ss b3 o3,
    μ kb = some (b2, o2, ss) ∧ a.eval g = .func (.func f) #[] #[.pointer (some ⟨b1, o1, none⟩), .pointer (some ⟨b2, o2, none⟩), .pointer (some ⟨b3, o3, none⟩)] ∧ w.cell? ⟨b1, o1, none⟩ = some x ∧ w.cell? ⟨b3, o3, none⟩ = some y := by
  have h := RA_ev hR g
  rw [hg] at h
  obtain ⟨ps, e1, e2, e3⟩ := h
  match ps, e2 with
  | [p, q, r], _ =>
    obtain ⟨b1, o1, h1, h2, _⟩ := e3 0 (.k x) p rfl rfl
    obtain ⟨b2, o2, ss, _, hm, h4⟩ := e3 1 (.b kb) q rfl rfl
    obtain ⟨b3, o3, h5, h6, _⟩ := e3 2 (.k y) r rfl rfl
    subst h1; subst h4; subst h5
    exact ⟨b1, o1 + 0, b2, o2, ss, b3, o3 + 0, hm, e1, h2 0 x rfl, h6 0 y rfl⟩
/-- A box of one cell, and a store into it. -/
theorem box1_at (hR : RepM N w0 M W lk μ st a w) {kb g o s : Nat} {x : Value} (hl : lkp st.o kb = some (.box [.v x])) (hm : μ kb = some (g, o, s)) : ∃ cur ty, w.heap[g]? = some (.cells cur ty (0, 0)) ∧ cur[o]? = some x := by
  obtain ⟨g', o', s', cur, ty, e, e2, e3, e4, e5⟩ := hR.ob kb _ hl
  rw [hm] at e
  injection e with e; injection e with e1 e; injection e with e6 e7
  subst e1; subst e6; subst e7
  refine ⟨cur, ty, e2, ?_⟩
  cases hq : (cur.toList.drop o).take ([C.v x] : List C).length with
  | nil => rw [hq] at e5; exact e5.elim
  | cons y r =>
    rw [hq] at e5
    obtain ⟨hy, _⟩ := e5
    have hy : y = x := hy
    subst hy
    have h1 : ((cur.toList.drop o).take ([C.v y] : List C).length)[0]? = some y := by rw [hq]; rfl
    rw [List.getElem?_take_of_lt (by simp), List.getElem?_drop] at h1
    simpa using h1
theorem box1_set (hR : RepM N w0 M W [] μ st a w) {kb g o s : Nat} {x y : Value} (hy : okV y = true) (hl : lkp st.o kb = some (.box [.v x])) (hm : μ kb = some (g, o, s)) :
    RepM N w0 M W [] μ ⟨st.t, setO kb (.box [.v y]) st.o⟩ a (w.setCell ⟨g, o, none⟩ y) := by
  obtain ⟨cur, ty, h1, h2⟩ := box1_at hR hl hm
  obtain ⟨g', o', s', cur', ty', e, e2, e3, e4, e5⟩ := hR.ob kb _ hl
  rw [hm] at e
  injection e with e; injection e with e1 e; injection e with e6 e7
  subst e1; subst e6; subst e7
  rw [h1] at e2
  injection e2 with e2; injection e2 with e8 e9 _
  subst e8; subst e9
  have ho : o < cur.size := (Array.getElem?_eq_some_iff.1 h2).1
  rw [setCell_eq_setRow w g o cur ty (0, 0) y h1]
  refine setO_ok hR hl (by simp [OB.sk]) rfl (.inr ⟨_, _, hm, rfl⟩) fun hmono => ?_
  refine ⟨g, o, s, _, ty, hm, setRow_heap w g cur _ ty _ h1, by simpa using e3, by simpa using e4, ?_⟩
  have : ((cur.setIfInBounds o y).toList.drop o).take ([C.v y] : List C).length = [y] := by
    apply List.ext_getElem?
    intro i
    cases i with
    | zero => rw [List.getElem?_take_of_lt (by simp), List.getElem?_drop]; simp [ho]
    | succ i => rw [List.getElem?_eq_none (by rw [List.length_take]; simp; omega), List.getElem?_eq_none (by simp)]
  rw [this]
  exact ⟨rfl, hy, trivial⟩

theorem qx_end {k : Kt} {e : Ex} {e' : Go.Exit} (he : (e = .normal ∧ e' = .normal) ∨ (e = .ret ∧ e' = .ret)) {Ds : List Nat} {D : Nat} (hD : DsOK w0 M Ds) (hDn : w0.heap.size ≤ D) (hR : RepM N w0 M W [] μ st a w) (hDe : w.heap[D]? = some (.deferred (some []))) (hk : k e st) :
    QX N w0 M W Ds k e' { ext a (dsOf Ds) with defers := { target := .collected D, args := #[] } :: (ext a (dsOf Ds)).defers } w := by
  have hnl : ∀ D' : Nat, w.heap[D']? = some (.deferred (some [])) → ¬ liveM [] (skel st.o) μ D' := fun D' hD' hl => by
    obtain ⟨obj, g1, g2⟩ := liveM_cells hR hl
    rw [hD'] at g1; cases g1; cases g2
  have hold : ∀ D' ∈ Ds, D' < w0.heap.size ∧ w.heap[D']? = some (.deferred (some [])) := fun D' hD' => by
    obtain ⟨g1, g2⟩ := hD.2 D' hD'
    have hlt := (Array.getElem?_eq_some_iff.1 g1).1
    exact ⟨hlt, (hR.fr.blk D' hlt g2).trans g1⟩
  refine ⟨w, liveM [] (skel st.o) μ, W1of w (skel st.o) μ W, D :: Ds, a, ?_, ⟨List.nodup_cons.2 ⟨fun hm => ?_, hD.1⟩, fun D' hD' => ?_⟩, fun D' hD' => ?_, hR.fr.size, fun μ st a' w' h => base_out hR h, fun k b hb => hb.1, ?_⟩
  · simp [ext, dsOf, hR.df]
  · have := (hold D hm).1; omega
  · rcases List.mem_cons.1 hD' with rfl | h
    · exact ⟨hDe, hnl _ hDe⟩
    · exact ⟨(hold D' h).2, hnl _ (hold D' h).2⟩
  · rcases List.mem_cons.1 hD' with rfl | h
    · exact .inr hDn
    · exact .inl h
  · rcases he with ⟨rfl, rfl⟩ | ⟨rfl, rfl⟩
    · exact ⟨st, ⟨μ, base_in hR⟩, hk⟩
    · exact ⟨st, ⟨μ, base_in hR⟩, hk⟩
theorem keepC_put {b : Nat} {o o' : Obj} (h : w.heap[b]? = some o) (hc : o.isCells = false) : KeepC w (w.putObj b o') := keepC_grown (grownBy_putObj' w b o') (fun r e => by cases e; exact ⟨o, h, hc⟩)
theorem RepM.put (hR : RepM N w0 M W lk μ st a w) {b : Nat} {o o' : Obj} (h : w.heap[b]? = some o) (hc : o.isCells = false) (hb : w0.heap.size ≤ b) : RepM N w0 M W lk μ st a (w.putObj b o') :=
  hR.keepC (keepC_put h hc) (fr_grown2 hR.fr (grownBy_putObj' w b o') fun r e => by cases e; exact hb)

set_option maxHeartbeats 1000000 in
theorem rangeS_ok {an : Ann} {sq : List FuncId} (hN : Γ.B + 16 * N + 16 ≤ 100000) (hP : P.follows .mixedOrders = true) (hT : TabOK P T) (hΓ : ConsOK P N Γ) (hSq : ∀ f, memN sq f = true → SqOK P f) {g : Operand} {p0 q0 : Nat} {asg body : Code} {nm : List NStep} {k : Kt} {Ds : List Nat}
    (has : asg1 p0 asg = some q0) (hp0 : p0 < N) (hq0 : q0 < N) (hpl : plansOK an body = true) (hnd : noDefC body = true) (hW : ∀ k b, W k b → M b ∨ w0.heap.size ≤ b) (hD : DsOK w0 M Ds) (hR : RepM N w0 M W [] μ st a w)
    (h : SqRule T Γ N an sq g p0 q0 body nm st k) {n : Nat} (hn : 1 ≤ n) : (Code.rangeFunc g #[p0] asg body).wpIn Fence.wide n P (QX N w0 M W Ds k) (ext a (dsOf Ds)) w := by
  obtain ⟨α, S, I, a0, f, kb, c, s, hst, hsq, hlen, hS, hset, hI0, hround, hdone⟩ := h.out
  subst hst
  obtain ⟨hB1, hB2⟩ := hSq f hsq
  obtain ⟨b1, o1, b2, o2, ss, b3, o3, hm1, hcl, hc1, hc3⟩ := cap3_at hR (hS a0 s).1
  have hsz := hR.sz.1
  have hws := hR.fr.size
  refine wpIn_rangeFunc fun fn hfn => ?_
  obtain ⟨rec, hrec⟩ : ∃ rec : LoopState → Option Code → Loop, rec = fun st pe => { state := st, pending := pe, fn, tmps := (ext a (dsOf Ds)).tmps, params := #[p0], assign := asg, body, defers := w.heap.size } := ⟨_, rfl⟩
  obtain ⟨W1, hW1⟩ : ∃ W1, (w.alloc (.deferred (some []))).alloc (.loop (rec .ready none)) = W1 := ⟨_, rfl⟩
  have hL1 : W1.heap[w.heap.size + 1]? = some (.loop (rec .ready none)) := by
    rw [← hW1]
    have := World.alloc_heap_new (w.alloc (.deferred (some []))) (.loop (rec .ready none))
    rwa [World.size_alloc] at this
  have hD1 : W1.heap[w.heap.size]? = some (.deferred (some [])) := by
    rw [← hW1]
    exact (Go.RowKit.Below.heap_alloc _ _ _ (by simp)).trans (World.alloc_heap_new w _)
  have hR1 : RepM N w0 M W [] μ (S a0 s) a W1 := by
    have g1 := World.grownBy_alloc w (.deferred (some [])) none
    have r1 := hR.keepC (keepC_grown g1 (fun r e => by cases e)) (fr_grown2 hR.fr g1 fun r e => by cases e)
    have g2 := World.grownBy_alloc (w.alloc (.deferred (some []))) (.loop (rec .ready none)) none
    rw [← hW1]
    exact r1.keepC (keepC_grown g2 (fun r e => by cases e)) (fr_grown2 r1.fr g2 fun r e => by cases e)
  -- where the captured cells lie, in every world of the loop
  have same : ∀ {b : α} {s1 : ByteArray} {μ2 : Mu} {A : World}, RepM N w0 M W [] μ2 (S b s1) a A → (∃ ss2, μ2 kb = some (b2, o2, ss2)) ∧ A.cell? ⟨b1, o1, none⟩ = some (.string ⟨#[c]⟩) ∧ A.cell? ⟨b3, o3, none⟩ = some (.int .i64 0) := by
    intro b s1 μ2 A hA
    obtain ⟨b1', o1', b2', o2', ss', b3', o3', hm', hcl', hc1', hc3'⟩ := cap3_at hA (hS b s1).1
    rw [hcl] at hcl'
    simp at hcl'
    obtain ⟨⟨e1, e2⟩, ⟨e3, e4⟩, e5, e6⟩ := hcl'
    subst e1; subst e2; subst e3; subst e4; subst e5; subst e6
    exact ⟨⟨ss', hm'⟩, hc1', hc3'⟩
  refine ⟨w.heap.size + 1, [{ target := .collected w.heap.size, args := #[] }], W1, { target := .fn (.func f) #[.pointer (some ⟨b1, o1, none⟩), .pointer (some ⟨b2, o2, none⟩), .pointer (some ⟨b3, o3, none⟩)], args := #[.func (.yield (w.heap.size + 1)) #[] #[]] }, W1, f,
    #[.func (.yield (w.heap.size + 1)) #[] #[], .pointer (some ⟨b1, o1, none⟩), .pointer (some ⟨b2, o2, none⟩), .pointer (some ⟨b3, o3, none⟩)], W1, ?_, ?_, fun _ _ => trivial, ?_, fun hd => (by cases hd), ?_⟩
  · rw [← hW1, hrec]; exact run_enterLoop_outer _ _ _ _ _
  · simp only [resolve, ext_eval, hcl]
    simp [go_sem]
  · simp [invoke, go_sem, hB1]
  refine (hB2 b1 o1 b2 o2 b3 o3 c s (n - 1) (w.heap.size + 1)
    (fun pre s1 A => ∃ (b : α) (μ2 : Mu), RepM N w0 M W [] μ2 (S b s1) a A ∧ I pre b ∧ A.heap[w.heap.size + 1]? = some (.loop (rec .ready none)) ∧ A.heap[w.heap.size]? = some (.deferred (some [])))
    (fun A => ∃ (st3 : St) (μ3 : Mu), RepM N w0 M W [] μ3 st3 a A ∧ k .ret st3 ∧ A.heap[w.heap.size + 1]? = some (.loop (rec .done (some .ret))) ∧ A.heap[w.heap.size]? = some (.deferred (some [])))
    W1 hlen ?facts ?store ?yield ⟨a0, μ, hR1, hI0, hL1, hD1⟩).mono ?behind
  case facts =>
    rintro pre s1 A ⟨b, μ2, hA, _, _, _⟩
    obtain ⟨⟨ss2, hm2⟩, h1, h3⟩ := same hA
    exact ⟨h1, h3, box1_at hA (hS b s1).2 hm2⟩
  case store =>
    rintro pre s1 s2 A ⟨b, μ2, hA, hI, hL, hDA⟩
    obtain ⟨⟨ss2, hm2⟩, h1, h3⟩ := same hA
    obtain ⟨cur, ty, h4, h5⟩ := box1_at hA (hS b s1).2 hm2
    have hA2 := box1_set (y := .string s2) hA rfl (hS b s1).2 hm2
    rw [hset b s1 s2] at hA2
    have hne : ∀ (x : Nat) (o : Obj), A.heap[x]? = some o → o.isCells = false → (A.setCell ⟨b2, o2, none⟩ (.string s2)).heap[x]? = some o := fun x o hx hc => by
      rw [setCell_eq_setRow A b2 o2 cur ty (0, 0) _ h4, setRow_other A b2 x _ (fun e => by subst e; rw [h4] at hx; cases hx; cases hc)]
      exact hx
    exact ⟨b, μ2, hA2, hI, hne _ _ hL rfl, hne _ _ hDA rfl⟩
  case yield =>
    rintro pre x s1 A ⟨b, μ2, hA, hI, hL, hDA⟩ hpre
    have hlt : w.heap.size + 1 < A.heap.size := (Array.getElem?_eq_some_iff.1 hL).1
    have hy := run_yield (P := P) (args := #[.string x]) hL (by rw [hrec]; rfl)
    rw [hrec] at hy
    refine ⟨fn, _, asg, body, hy, roundIn_of_wpIn hfn ?_⟩
    have ea : ({ tmps := ((#[p0] : Array Tmp).zip #[Value.string x]).foldl (fun t (p, v) => t.setIfInBounds p v) (ext a (dsOf Ds)).tmps, defers := [] } : Act) = a.put (some p0) (.string x) := by
      have hdf := hR.df
      obtain ⟨tm, df⟩ := a
      simp only at hdf
      subst hdf
      simp [Act.put, ext]
    show asg.wpIn _ _ _ _ ({ tmps := ((#[p0] : Array Tmp).zip #[Value.string x]).foldl (fun t (p, v) => t.setIfInBounds p v) (ext a (dsOf Ds)).tmps, defers := [] } : Act) A
    rw [ea]
    refine asg1_in (.inr ⟨_, rfl⟩) has ?_
    refine ⟨_, run_beginRound hL (by rw [hrec]), ?_⟩
    have v1 : (a.put (some p0) (.string x)).tmps.getD p0 undef = .string x := getD_sib_same (by rw [hsz]; exact hp0)
    rw [v1]
    have hA2 := hA.put (o' := .loop { rec .ready none with state := .busy }) hL rfl (by omega)
    have hL2 : (A.putObj (w.heap.size + 1) (.loop { rec .ready none with state := .busy })).heap[w.heap.size + 1]? = some (.loop { rec .ready none with state := .busy }) := World.putObj_heap_same hlt
    have hD2 : (A.putObj (w.heap.size + 1) (.loop { rec .ready none with state := .busy })).heap[w.heap.size]? = some (.deferred (some [])) := (World.putObj_heap_other (by omega)).trans hDA
    generalize A.putObj (w.heap.size + 1) (.loop { rec .ready none with state := .busy }) = A2 at hA2 hL2 hD2
    have hPu := push_ok (base_in hA2)
    have h1 := put_ok hPu (d := p0) (x := V (.string x)) (v := .string x) hp0 rfl
    have h2 := put_ok h1 (d := q0) (x := V (.string x)) (v := .string x) hq0 rfl
    have hev := hround pre x b s1 (fun st => ∃ b', st = S b' s1 ∧ I (pre ++ [x]) b') hpre hI (fun b' hb' => ⟨b', rfl, hb'⟩)
    have hW2 : ∀ k d, (pushW N (W1of A2 (skel (S b s1).o) μ2 W) a.tmps) k d → liveM [] (skel (S b s1).o) μ2 d ∨ A2.heap.size ≤ d := fun k d hd => hd.1
    have hwp := evIn_ok (F := Fence.wide.inRound (w.heap.size + 1)) (n := n - 1 - 1) (ds := []) hN hP hT hΓ hW2 (.inr ⟨_, rfl⟩) body hpl hnd h2 hev
    rw [ext_nil] at hwp
    have stay : ∀ {Y : World} {a' : Act} {μ3 : Mu} {st3 : St} {x : Nat} {o : Obj}, RepM N A2 (liveM [] (skel (S b s1).o) μ2) (pushW N (W1of A2 (skel (S b s1).o) μ2 W) a.tmps) [] μ3 st3 a' Y → A2.heap[x]? = some o → o.isCells = false → Y.heap[x]? = some o := by
      intro Y a' μ3 st3 x o hY hx hc
      refine (hY.fr.blk x (Array.getElem?_eq_some_iff.1 hx).1 fun hl => ?_).trans hx
      obtain ⟨obj, g1, g2⟩ := liveM_cells hA2 hl
      rw [hx] at g1; cases g1; rw [hc] at g2; cases g2
    refine wpIn_mono hwp fun e a' Y hq => ?_
    obtain ⟨a1, rfl, hq⟩ := hq
    cases e with
    | normal =>
      obtain ⟨st2, ⟨μ3, hR3⟩, hk⟩ := hq
      simp only [rndX] at hk
      split at hk
      · rename_i st3 hn3
        obtain ⟨b', rfl, hI3⟩ := hk
        have hback := base_out hA2 (pop_ok hA2.df hA2.sz hR3)
        obtain ⟨μ4, hR4⟩ := norm_ok nm hback hn3
        have hLY := stay hR3 hL2 rfl
        have hDY := stay hR3 hD2 rfl
        refine ⟨_, _, run_endRound none hLY, .inl ⟨rfl, b', μ4, hR4.put hLY rfl (by omega), hI3, ?_, (World.putObj_heap_other (by omega)).trans hDY⟩⟩
        rw [World.putObj_heap_same (Array.getElem?_eq_some_iff.1 hLY).1, hrec]; rfl
      · exact hk.elim
    | ret =>
      obtain ⟨st2, ⟨μ3, hR3⟩, hk⟩ := hq
      simp only [rndX] at hk
      have hback := base_out hA2 (pop_ok hA2.df hA2.sz hR3)
      have hLY := stay hR3 hL2 rfl
      have hDY := stay hR3 hD2 rfl
      refine ⟨_, _, run_endRound (some .ret) hLY, .inr ⟨rfl, _, μ3, hback.put hLY rfl (by omega), hk, ?_, (World.putObj_heap_other (by omega)).trans hDY⟩⟩
      rw [World.putObj_heap_same (Array.getElem?_eq_some_iff.1 hLY).1, hrec]; rfl
    | exit id => obtain ⟨st2, _, hk⟩ := hq; exact hk.elim
    | goto l => exact hq.elim
    | panic c => exact hq.elim
    | outgrown => exact hq.elim
  case behind =>
    rintro e W2 ⟨⟨v, rfl⟩, ⟨s', b, μ2, hA, hI, hL, hDA⟩ | ⟨st3, μ3, hA, hk, hL, hDA⟩⟩
    · refine ⟨none, _, by have := run_endLoop (P := P) hL (by rw [hrec]; simp); rw [hrec] at this; exact this, ?_⟩
      exact qx_end (.inl ⟨rfl, rfl⟩) hD hws (hA.put hL rfl (by omega)) ((World.putObj_heap_other (by omega)).trans hDA) (hdone b s' hI)
    · refine ⟨some .ret, _, by have := run_endLoop (P := P) hL (by rw [hrec]; simp); rw [hrec] at this; exact this, ?_⟩
      exact wpIn_ret (qx_end (.inr ⟨rfl, rfl⟩) hD hws (hA.put hL rfl (by omega)) ((World.putObj_heap_other (by omega)).trans hDA) hk)
theorem evX_ok {an : Ann} {bw sq : List FuncId} (hN : Γ.B + 16 * N + 16 ≤ 100000) (hP : P.follows .mixedOrders = true) (hT : TabOK P T) (hΓ : ConsOK P N Γ) (hBw : ∀ f, memN bw f = true → BwOK P f) (hSq : ∀ f, memN sq f = true → SqOK P f) {n : Nat} (hn : 1 ≤ n) : ∀ (c : Code) {w0 : World} {M : Nat → Prop} {W : Wd} {Ds : List Nat} {k : Kt} {μ : Mu} {st : St} {a : Act} {w : World},
    plansOK an c = true → noDefC c = true → (∀ k b, W k b → M b ∨ w0.heap.size ≤ b) → DsOK w0 M Ds → RepM N w0 M W [] μ st a w → evX T Γ N an bw sq c st k → c.wpIn Fence.wide n P (QX N w0 M W Ds k) (ext a (dsOf Ds)) w := by
  intro c
  have plain : ∀ (c : Code) {w0 : World} {M : Nat → Prop} {W : Wd} {Ds : List Nat} {k : Kt} {μ : Mu} {st : St} {a : Act} {w : World}, plansOK an c = true → noDefC c = true → (∀ k b, W k b → M b ∨ w0.heap.size ≤ b) → DsOK w0 M Ds → RepM N w0 M W [] μ st a w → ev T Γ N an c st k → c.wpIn Fence.wide n P (QX N w0 M W Ds k) (ext a (dsOf Ds)) w := by
    intro c w0 M W Ds k μ st a w hp hd hW hD hR h
    refine wpIn_mono (evIn_ok (ds := dsOf Ds) hN hP hT hΓ hW (.inl rfl) c hp hd hR h) fun e a' w' hq => ?_
    obtain ⟨a0, rfl, hq⟩ := hq
    exact QX.of hW hD hq
  induction c with
  | seq x y ih1 ih2 =>
    intro w0 M W Ds k μ st a w hp hd hW hD hR h
    simp only [plansOK] at hp
    simp only [noDefC] at hd
    split at hp
    · rename_i hp1
      split at hd
      · rename_i hd1
        refine wpIn_seq (wpIn_mono (ih1 hp1 hd1 hW hD hR h) fun e a' w' hq => ?_)
        cases e with
        | normal =>
          obtain ⟨w1, M1, W1, Ds1, a0, rfl, hd1', hsub, hsz, hb, hW1, st', ⟨μ', hR'⟩, hk⟩ := hq
          exact wpIn_mono (ih2 hp hd hW1 hd1' hR' hk) fun e a w h => QX.trans hsub hsz hb h
        | exit id => exact hq
        | ret => exact hq
        | goto l => obtain ⟨w1, M1, W1, Ds1, a0, _, _, _, _, _, _, hq⟩ := hq; exact hq.elim
        | panic c => obtain ⟨w1, M1, W1, Ds1, a0, _, _, _, _, _, _, hq⟩ := hq; exact hq.elim
        | outgrown => obtain ⟨w1, M1, W1, Ds1, a0, _, _, _, _, _, _, hq⟩ := hq; exact hq.elim
      · cases hd
    · cases hp
  | block id x ih =>
    intro w0 M W Ds k μ st a w hp hd hW hD hR h
    refine wpIn_block (wpIn_mono (ih hp hd hW hD hR h) fun e a' w' hq => ?_)
    obtain ⟨w1, M1, W1, Ds1, a0, rfl, hd1, hsub, hsz, hb, hW1, hq⟩ := hq
    cases e with
    | normal => exact ⟨w1, M1, W1, Ds1, a0, rfl, hd1, hsub, hsz, hb, hW1, hq⟩
    | exit id' =>
      obtain ⟨st', hR', hk⟩ := hq
      simp only [Exit.inBlock]
      simp only [blockK] at hk
      rcases beq_cases id' id with ⟨rfl, e⟩ | ⟨hne, e⟩
      · rw [e] at hk; rw [if_pos rfl]; exact ⟨w1, M1, W1, Ds1, a0, rfl, hd1, hsub, hsz, hb, hW1, st', hR', hk⟩
      · rw [e] at hk; rw [if_neg hne]; exact ⟨w1, M1, W1, Ds1, a0, rfl, hd1, hsub, hsz, hb, hW1, st', hR', hk⟩
    | ret => exact ⟨w1, M1, W1, Ds1, a0, rfl, hd1, hsub, hsz, hb, hW1, hq⟩
    | goto l => exact hq.elim
    | panic c => exact hq.elim
    | outgrown => exact hq.elim
  | rangeFunc g ps asg body ih1 ih2 =>
    intro w0 M W Ds k μ st a w hp hd hW hD hR h
    simp only [evX] at h
    split at h
    · rename_i p0 p1 nm hps _ hpl hnd
      split at h
      rotate_left
      · exact h.elim
      rename_i q0 q1 has
      split at h
      rotate_left
      · exact h.elim
      rename_i hsl
      have e : ps = #[p0, p1] := by apply Array.ext'; simpa using hps
      subst e
      split at h
      · rename_i st' hnm
        obtain ⟨μ1, hR1⟩ := norm_ok nm hR hnm
        exact rangeFunc_ok hN hP hT hΓ hBw has hsl hpl hnd hD hR1 h hn
      · exact h.elim
    · rename_i p0 nm hps _ hpl hnd
      split at h
      rotate_left
      · exact h.elim
      rename_i q0 has
      split at h
      rotate_left
      · exact h.elim
      rename_i hp0 hq0
      have e : ps = #[p0] := by apply Array.ext'; simpa using hps
      subst e
      split at h
      · rename_i st' hnm
        obtain ⟨μ1, hR1⟩ := norm_ok nm hR hnm
        exact rangeS_ok hN hP hT hΓ hSq has (nblt' hp0) (nblt' hq0) hpl hnd hW hD hR1 h hn
      · exact h.elim
    · exact h.elim
  | _ => intro w0 M W Ds k μ st a w hp hd hW hD hR h; exact plain _ hp hd hW hD hR h

theorem KeepC.trans {w1 w2 w3 : World} (h : KeepC w1 w2) (k : KeepC w2 w3) : KeepC w1 w3 := ⟨Nat.le_trans h.1 k.1, fun b obj h1 h2 => k.2 b obj (h.2 b obj h1 h2) h2⟩
theorem leaves_all {F : Fence} {n : Nat} {fn : Func} {tmps : Array Value} {R : Ending → World → Prop} : ∀ (Ds : List Nat) (w : World), Ds.Nodup → (∀ D ∈ Ds, w.heap[D]? = some (.deferred (some [])) ∧ w0.heap.size ≤ D) → Fr M w0 w →
    (∀ w', KeepC w w' → Fr M w0 w' → ∃ v, (results fn tmps).run P w' = .ok v w' ∧ R (.returned v) w') → LeavesInM F n P fn tmps R (dsOf Ds) .returning w
  | [], w, _, _, hfr, h => h w ⟨Nat.le_refl _, fun _ _ h _ => h⟩ hfr
  | D :: Ds, w, hn, hD, hfr, h => by
    obtain ⟨h1, h2⟩ := hD D (List.mem_cons_self ..)
    obtain ⟨hn1, hn2⟩ := List.nodup_cons.1 hn
    have hk : KeepC w (w.putObj D (.deferred none)) := keepC_grown (grownBy_putObj' w D _) (fun r e => by cases e; exact ⟨_, h1, rfl⟩)
    refine ⟨by simp, .inl ⟨D, w.putObj D (.deferred none), rfl, run_takeDeferred h1, leaves_all Ds _ hn2 (fun D' hD' => ?_) (fr_grown2 hfr (grownBy_putObj' w D _) (fun r e => by cases e; exact h2)) fun w' hk' hf' => h w' (hk.trans hk') hf'⟩⟩
    obtain ⟨g1, g2⟩ := hD D' (List.mem_cons_of_mem _ hD')
    exact ⟨(World.putObj_heap_other (fun e => hn1 (by rw [← e]; exact hD'))).trans g1, g2⟩
/-- A function with ranges over slices.Backward that the evaluator has gone through. -/
theorem holds_of_evX {an : Ann} {bw sq : List FuncId} {f : FuncId} {fn : Func} {c : Code} {C : Con} {rt : List RT} (hf : P.funcs[f]? = some fn) (hb : fn.body = some c) (hn : fn.ntmps = N) (hN : Γ.B + 16 * N + 16 ≤ 100000) (hmu : C.mu.length ≤ N) (hP : P.follows .mixedOrders = true)
    (hT : TabOK P T) (hΓ : ConsOK P N Γ) (hBw : ∀ f, memN bw f = true → BwOK P f) (hSq : ∀ f, memN sq f = true → SqOK P f) (hpl : plansOK an c = true) (hnd : noDefC c = true) (h : ∀ vs kk, vs.length = C.mu.length → C.F vs kk → Goes (evX T Γ N an bw sq c (st0 C vs) (fin T C fn.results.toList rt vs kk))) : Holds P f C := by
  intro vs kk hF kd w vals μ M hkd hpre
  refine (callsIn_wide (n := 3)).1 (callsIn_of_wp_marks hf hb trivial ?_)
  rw [hn]
  obtain ⟨μb, hbeg⟩ := begin_ok (N := N) hpre (by rw [← hpre.nm]; exact hmu) (by omega)
  have hW0 : ∀ k d, (W0 C vs w μ M) k d → M d ∨ w.heap.size ≤ d := fun k d hd => hd.2
  have hx := evX_ok (Ds := []) hN hP hT hΓ hBw hSq (n := 3) (by omega) c hpl hnd hW0 ⟨List.nodup_nil, by simp⟩ hbeg (h vs kk hpre.nm.symm hF).out
  rw [show dsOf [] = [] from rfl, ext_nil] at hx
  refine wpIn_mono hx fun e a' w' hq => ?_
  obtain ⟨w1, M1, W1, Ds1, a0, rfl, hd1, hsub, hsz, hback, hW1, hq⟩ := hq
  have hend : ∀ {e : Ex} {μ' : Mu} {st' : St}, RepM N w1 M1 W1 [] μ' st' a0 w' → fin T C fn.results.toList rt vs kk e st' → LeavesInM Fence.wide 3 P fn (ext a0 (dsOf Ds1)).tmps (Post C vs w μ M kd kk) (ext a0 (dsOf Ds1)).defers .returning w' := by
    intro e μ' st' hR' hk
    have hRw := hback _ _ _ _ hR'
    have hdef : (ext a0 (dsOf Ds1)).defers = dsOf Ds1 := by
      show a0.defers ++ dsOf Ds1 = _
      rw [hR'.df]; rfl
    rw [hdef]
    refine leaves_all (w0 := w) (M := M) Ds1 w' hd1.1 (fun D hD => ⟨?_, (hsub D hD).resolve_left (by simp)⟩) hRw.fr fun w'' hk2 hf2 => ?_
    · obtain ⟨g1, g2⟩ := hd1.2 D hD
      exact (hR'.fr.blk D (Array.getElem?_eq_some_iff.1 g1).1 g2).trans g1
    · exact fin_ok hT hpre (hRw.keepC hk2 hf2) hkd hk
  cases e with
  | normal => obtain ⟨st', ⟨μ', hR'⟩, hk⟩ := hq; exact hend hR' hk
  | ret => obtain ⟨st', ⟨μ', hR'⟩, hk⟩ := hq; exact hend hR' hk
  | exit id => obtain ⟨st', _, hk⟩ := hq; exact hk.elim
  | goto l => exact hq.elim
  | panic c => exact hq.elim
  | outgrown => exact hq.elim
end
end Go.Ev
