/- A range over slices.Backward does in the machine what is said of it. No statement is proved here. -/
import Derived.Test.YtaajnkggomlppacEvY
namespace Go.Ev
set_option linter.unusedVariables false
open Go

section
variable {P : Program} {T : Tab} {N : Nat} {w0 : World} {M : Nat → Prop} {W : Wd} {lk : List Nat} {μ : Mu} {st : St} {a : Act} {w w' : World} {Γ : Cons} {S : Sk}

def dsOf (Ds : List Nat) : List Deferred := Ds.map fun D => { target := .collected D, args := #[] }
/-- The marks of loops that are over: they lie, and nobody writes there. -/
def DsOK (w0 : World) (M : Nat → Prop) (Ds : List Nat) : Prop := Ds.Nodup ∧ ∀ D ∈ Ds, w0.heap[D]? = some (.deferred (some [])) ∧ ¬ M D
/-- What holds behind: out of a later world, with the marks of the loops. -/
def QX (N : Nat) (w0 : World) (M : Nat → Prop) (W : Wd) (Ds : List Nat) (k : Kt) : Go.Exit → Act → World → Prop := fun e a2 w' =>
  ∃ (w1 : World) (M1 : Nat → Prop) (W1 : Wd) (Ds1 : List Nat) (a0 : Act), a2 = ext a0 (dsOf Ds1) ∧ DsOK w1 M1 Ds1 ∧ (∀ D ∈ Ds1, D ∈ Ds ∨ w0.heap.size ≤ D) ∧ w0.heap.size ≤ w1.heap.size ∧
    (∀ (μ : Mu) (st : St) (a : Act) (w' : World), RepM N w1 M1 W1 [] μ st a w' → RepM N w0 M W [] μ st a w') ∧ (∀ k b, W1 k b → M1 b ∨ w1.heap.size ≤ b) ∧ QOf N w1 M1 W1 k e a0 w'
theorem QX.of {k : Kt} {e : Go.Exit} {Ds : List Nat} (hW : ∀ k b, W k b → M b ∨ w0.heap.size ≤ b) (hD : DsOK w0 M Ds) (h : QOf N w0 M W k e a w) : QX N w0 M W Ds k e (ext a (dsOf Ds)) w :=
  ⟨w0, M, W, Ds, a, rfl, hD, fun D h => .inl h, Nat.le_refl _, fun _ _ _ _ h => h, hW, h⟩
theorem QX.trans {k : Kt} {e : Go.Exit} {Ds Ds1 : List Nat} {w1 : World} {M1 : Nat → Prop} {W1 : Wd} (hsub : ∀ D ∈ Ds1, D ∈ Ds ∨ w0.heap.size ≤ D) (hsz : w0.heap.size ≤ w1.heap.size)
    (hb : ∀ (μ : Mu) (st : St) (a : Act) (w' : World), RepM N w1 M1 W1 [] μ st a w' → RepM N w0 M W [] μ st a w') (h : QX N w1 M1 W1 Ds1 k e a w) : QX N w0 M W Ds k e a w := by
  obtain ⟨w2, M2, W2, Ds2, a0, e1, e2, e3, e4, e5, e6, e7⟩ := h
  refine ⟨w2, M2, W2, Ds2, a0, e1, e2, fun D hD => ?_, Nat.le_trans hsz e4, fun μ st a w' h => hb _ _ _ _ (e5 _ _ _ _ h), e6, e7⟩
  rcases e3 D hD with h | h
  · exact hsub D h
  · exact .inr (Nat.le_trans hsz h)

theorem asg1_in {F : Fence} (hF : WideF F) {n p q : Nat} {c : Code} (h : asg1 p c = some q) {Q : Go.Exit → Act → World → Prop} (hq : Q .normal (a.put (some q) (a.tmps.getD p undef)) w) : c.wpIn F n P Q a w := by
  unfold asg1 at h
  split at h
  rotate_left
  · cases h
  rename_i id ops
  split at h
  rotate_left
  · cases h
  rename_i o ho
  obtain ⟨dst, op, ty, pos, af, gd⟩ := o
  simp only at h
  split at h
  rotate_left
  · cases h
  rename_i q' s
  split at h
  rotate_left
  · cases h
  rename_i hb
  injection h with h
  subst h
  have hb := Nat.eq_of_beq_eq_true hb
  subst hb
  have e : ops = #[⟨some q', .assign (.tmp s), ty, pos, af, none⟩] := by apply Array.ext'; simpa using ho
  subst e
  refine wpIn_region ?_
  have hw : Region.wanted (⟨some q', .assign (.tmp s), ty, pos, af, none⟩ : Oper) (yielded #[⟨some q', .assign (.tmp s), ty, pos, af, none⟩] a.tmps) = true := rfl
  show wpOpsIn F n P #[⟨some q', .assign (.tmp s), ty, pos, af, none⟩] Q [0] a w
  simp only [wpOpsIn, List.getElem?_toArray, List.getElem?_cons_zero, hw, if_true]
  refine ⟨fun f _ => hF.fn f, ?_⟩
  have hx : (execOp a.eval (⟨some q', .assign (.tmp s), ty, pos, af, none⟩ : Oper)).run P w = .ok (.value (a.tmps.getD s undef)) w := by simp [execOp, Act.eval]
  rw [Oper.semAt_eq _ _ _ (fun c e => by cases e), hx]
  exact hq
theorem asg2_in {F : Fence} (hF : WideF F) {n p0 p1 q0 q1 : Nat} {c : Code} (h : asg2 p0 p1 c = some (q0, q1)) {K : Act → World → Prop}
    (hq : K ((a.put (some q0) (a.tmps.getD p0 undef)).put (some q1) ((a.put (some q0) (a.tmps.getD p0 undef)).tmps.getD p1 undef)) w) : c.wpIn F n P (Go.Exit.then K (fun _ _ _ => False)) a w := by
  unfold asg2 at h
  split at h
  rotate_left
  · cases h
  rename_i x y
  split at h
  rotate_left
  · cases h
  rename_i r0 r1 h0 h1
  injection h with h
  injection h with e0 e1
  subst e0; subst e1
  exact wpIn_seq (asg1_in hF h0 (asg1_in hF h1 hq))
theorem getD_sib_same {t : Array Value} {i : Nat} {v d : Value} (h : i < t.size) : (t.setIfInBounds i v).getD i d = v := by
  simp [Array.getD_eq_getD_getElem?, h]
theorem getD_sib_ne {t : Array Value} {i j : Nat} {v d : Value} (h : i ≠ j) : (t.setIfInBounds i v).getD j d = t.getD j d := by
  simp [Array.getD_eq_getD_getElem?, Array.getElem?_setIfInBounds_ne h]
theorem slots_iff {N p0 p1 q0 q1 : Nat} (h : slotsOK N p0 p1 q0 q1 = true) : p0 < N ∧ p1 < N ∧ q0 < N ∧ q1 < N ∧ p0 ≠ p1 ∧ q0 ≠ p1 := by
  unfold slotsOK at h
  split at h
  · rename_i h1 h2 h3 h4 h5 h6
    exact ⟨nblt' h1, nblt' h2, nblt' h3, nblt' h4, fun e => by subst e; simp at h5, fun e => by subst e; simp at h6⟩
  · cases h
theorem liveM_cells (hR : RepM N w0 M W lk μ st a w) {b : Nat} (h : liveM [] (skel st.o) μ b) : ∃ obj : Obj, w.heap[b]? = some obj ∧ obj.isCells = true := by
  obtain ⟨k, p, h1, _, h3, rfl⟩ := h
  obtain ⟨ob, hob⟩ := skel_some h1
  have := hR.ob k ob hob
  cases ob with
  | row τ l =>
    rcases this with ⟨e, _⟩ | ⟨g, o, s, cur, ty, e, e2, _⟩
    · rw [e] at h3; cases h3
    · rw [e] at h3; injection h3 with h3; subst h3; exact ⟨_, e2, rfl⟩
  | box cs =>
    obtain ⟨g, o, s, cur, ty, e, e2, _⟩ := this
    rw [e] at h3; injection h3 with h3; subst h3; exact ⟨_, e2, rfl⟩
/-- The box of the slice that is gone through. -/
theorem bwR_of (hR : RepM N w0 M W lk μ st a w) {kb g o s : Nat} {l : List Int} (hl : lkp st.o kb = some (.box [.ro .int l])) (hm : μ kb = some (g, o, s)) : bwR g o l w := by
  obtain ⟨g', o', s', cur, ty, e, e2, e3, e4, e5⟩ := hR.ob kb _ hl
  rw [hm] at e
  injection e with e; injection e with e1 e; injection e with e6 e7
  subst e1; subst e6; subst e7
  have hlen : o < cur.size := by simp at e4; omega
  cases hq : (cur.toList.drop o).take ([C.ro .int l] : List C).length with
  | nil => rw [hq] at e5; exact e5.elim
  | cons y r =>
    rw [hq] at e5
    obtain ⟨⟨A, n, c, hy, hr, _⟩, _⟩ := e5
    refine ⟨A, n, c, ?_, hr⟩
    have hy2 : cur[o]? = some y := by
      have h1 : ((cur.toList.drop o).take ([C.ro .int l] : List C).length)[0]? = some y := by rw [hq]; rfl
      rw [List.getElem?_take_of_lt (by simp), List.getElem?_drop] at h1
      simpa using h1
    rw [← hy]
    rw [cell_of_heap e2]; exact hy2
theorem bwR_keep {g o : Nat} {l : List Int} (hk : KeepC w w') (h : bwR g o l w) : bwR g o l w' := by
  obtain ⟨A, n, c, h1, h2⟩ := h
  exact ⟨A, n, c, hk.cell h1, h2.keepC hk⟩
/-- Where the captured box lies. -/
theorem cap_at (hR : RepM N w0 M W lk μ st a w) {g : Operand} {f kb : Nat} (hg : st.ev g = .one (.c (.cl f [.b kb]))) : ∃ gg oo ss, μ kb = some (gg, oo, ss) ∧ a.eval g = .func (.func f) #[] #[.pointer (some ⟨gg, oo, none⟩)] := by
  have h := RA_ev hR g
  rw [hg] at h
  obtain ⟨ps, e1, e2, e3⟩ := h
  match ps, e2 with
  | [p], _ =>
    obtain ⟨gg, oo, ss, _, hm, rfl⟩ := e3 0 (.b kb) p rfl rfl
    exact ⟨gg, oo, ss, hm, e1⟩
theorem rangeFunc_ok {an : Ann} {bw : List FuncId} (hN : Γ.B + 16 * N + 16 ≤ 100000) (hP : P.follows .mixedOrders = true) (hT : TabOK P T) (hΓ : ConsOK P N Γ) (hBw : ∀ f, memN bw f = true → BwOK P f) {g : Operand} {p0 p1 q0 q1 : Nat} {asg body : Code} {nm : List NStep} {k : Kt} {Ds : List Nat}
    (has : asg2 p0 p1 asg = some (q0, q1)) (hsl : slotsOK N p0 p1 q0 q1 = true) (hpl : plansOK an body = true) (hnd : noDefC body = true) (hD : DsOK w0 M Ds) (hR : RepM N w0 M W [] μ st a w)
    (h : BwRule T Γ N an bw g p0 p1 q0 q1 body nm st k) {n : Nat} (hn : 1 ≤ n) : (Code.rangeFunc g #[p0, p1] asg body).wpIn Fence.wide n P (QX N w0 M W Ds k) (ext a (dsOf Ds)) w := by
  obtain ⟨α, S, I, a0, f, kb, l, hnm, hbw, hS, hI0, hround, hdone⟩ := h.out
  subst hnm
  obtain ⟨μ1, hR1⟩ : ∃ μ1, RepM N w0 M W [] μ1 (S a0) a w := ⟨_, hR⟩
  obtain ⟨hB1, hB2⟩ := hBw f hbw
  obtain ⟨s1, s2, s3, s4, s5, s6⟩ := slots_iff hsl
  obtain ⟨gg, oo, ss, hm1, hcl⟩ := cap_at hR1 (hS a0).1
  have hbwR := bwR_of hR1 (hS a0).2 hm1
  have hsz := hR1.sz.1
  refine wpIn_rangeFunc_ownF (F := Fence.wide) (gf := f) (lb := #[.pointer (some ⟨gg, oo, none⟩)]) rfl hn (by rw [ext_eval]; exact hcl) trivial hB1 (hB2 gg oo l (n - 1) w hbwR) (fun h1 h2 h => h2 (h1 h)) ?hKb (Go.RowKit.Below.refl _ _) (fun _ => rfl)
    (fun pre W' => ∃ (b : α) (μ2 : Mu), RepM N w0 M W [] μ2 (S b) a W' ∧ I (pre.map Subtype.val) b) (fun _ _ _ => False) ?hJ (fun _ _ _ _ _ h => h.elim) ⟨a0, μ1, hR1, hI0⟩
    (fun x => (((a.put (some p0) (.int .i64 (x.1 : Int))).put (some p1) (.int .i64 (l.getD x.1 0))).put (some q0) (.int .i64 (x.1 : Int))).put (some q1) (.int .i64 (l.getD x.1 0))) ?assign ?body ?done ?stop
  case hKb =>
    intro W' l' o o' _ hl ho _ hb
    exact bwR_keep (keepC_grown (grownBy_putObj' W' l' o') (fun r e => by cases e; exact ⟨o, hl, ho⟩)) hb
  case hJ =>
    rintro s X Y row ⟨b, μ2, hR2, hI2⟩ hg hr
    exact ⟨b, μ2, hR2.keepC (keepC_grown hg fun r e => (hr r e).2) (fr_grown2 hR2.fr hg fun r e => Nat.le_trans hR1.fr.size (hr r e).1), hI2⟩
  case assign =>
    intro l' x W' K hK
    have ea : ({ tmps := ((#[p0, p1] : Array Tmp).zip #[.int .i64 (x.1 : Int), .int .i64 (l.getD x.1 0)]).foldl (fun t (p, v) => t.setIfInBounds p v) (ext a (dsOf Ds)).tmps, defers := [] } : Act) = (a.put (some p0) (.int .i64 (x.1 : Int))).put (some p1) (.int .i64 (l.getD x.1 0)) := by
      have hdf := hR1.df
      obtain ⟨tm, df⟩ := a
      simp only at hdf
      subst hdf
      simp [Act.put, ext]
    rw [ea]
    refine asg2_in (.inr ⟨l', rfl⟩) has ?_
    have v1 : ((a.put (some p0) (.int .i64 (x.1 : Int))).put (some p1) (.int .i64 (l.getD x.1 0))).tmps.getD p0 undef = .int .i64 (x.1 : Int) := by
      show ((a.tmps.setIfInBounds p0 _).setIfInBounds p1 _).getD p0 undef = _
      rw [getD_sib_ne (Ne.symm s5), getD_sib_same (by rw [hsz]; exact s1)]
    rw [v1]
    have v2 : (((a.put (some p0) (.int .i64 (x.1 : Int))).put (some p1) (.int .i64 (l.getD x.1 0))).put (some q0) (.int .i64 (x.1 : Int))).tmps.getD p1 undef = .int .i64 (l.getD x.1 0) := by
      show (((a.tmps.setIfInBounds p0 _).setIfInBounds p1 _).setIfInBounds q0 _).getD p1 undef = _
      rw [getD_sib_ne s6, getD_sib_same (by simp [hsz]; exact s2)]
    rw [v2]
    exact hK
  case body =>
    rintro l' pre x X ⟨b, μ2, hR2, hI2⟩ hlen
    have hPu := push_ok (base_in hR2)
    have h1 := put_ok hPu (d := p0) (x := VI (x.1 : Int)) (v := .int .i64 (x.1 : Int)) s1 rfl
    have h2 := put_ok h1 (d := p1) (x := VI (l.getD x.1 0)) (v := .int .i64 (l.getD x.1 0)) s2 rfl
    have h3 := put_ok h2 (d := q0) (x := VI (x.1 : Int)) (v := .int .i64 (x.1 : Int)) s3 rfl
    have h4 := put_ok h3 (d := q1) (x := VI (l.getD x.1 0)) (v := .int .i64 (l.getD x.1 0)) s4 rfl
    have hev := hround (pre.map Subtype.val) x.1 b (fun s => ∃ b', s = S b' ∧ I (pre.map Subtype.val ++ [x.1]) b') x.2 (by simpa using hlen) hI2 (fun b' hb' => ⟨b', rfl, hb'⟩)
    have hW2 : ∀ k d, (pushW N (W1of X (skel (S b).o) μ2 W) a.tmps) k d → liveM [] (skel (S b).o) μ2 d ∨ X.heap.size ≤ d := fun k d hd => hd.1
    have hwp := evIn_ok (F := Fence.wide.inRound l') (n := n - 1 - 1) (ds := []) hN hP hT hΓ hW2 (.inr ⟨l', rfl⟩) body hpl hnd h4 hev
    rw [ext_nil] at hwp
    refine wpIn_mono hwp fun e a' Y hq => ?_
    obtain ⟨a1, rfl, hq⟩ := hq
    cases e with
    | normal =>
      obtain ⟨st2, ⟨μ3, hR3⟩, hk⟩ := hq
      simp only [rndE] at hk
      split at hk
      · rename_i st3 hn3
        obtain ⟨b', rfl, hI3⟩ := hk
        have hback := base_out hR2 (pop_ok hR2.df hR2.sz hR3)
        obtain ⟨μ4, hR4⟩ := norm_ok nm hback hn3
        refine ⟨⟨hR3.fr.size, fun k o hk ho => ?_⟩, fun _ => ?_, b', μ4, hR4, by simpa using hI3⟩
        · refine (hR3.fr.blk k (Array.getElem?_eq_some_iff.1 hk).1 fun hl => ?_).trans hk
          obtain ⟨obj, g1, g2⟩ := liveM_cells hR2 hl
          rw [hk] at g1; cases g1; rw [ho] at g2; cases g2
        · obtain ⟨g2, o2, s2', hm2, hev2⟩ := cap_at hR4 (hS b').1
          have := bwR_of hR4 (hS b').2 hm2
          rw [hcl] at hev2
          simp at hev2
          obtain ⟨rfl, rfl⟩ := hev2
          exact this
      · exact hk.elim
    | exit id => obtain ⟨st2, _, hk⟩ := hq; exact hk.elim
    | ret => obtain ⟨st2, _, hk⟩ := hq; exact hk.elim
    | goto l => exact hq.elim
    | panic c => exact hq.elim
    | outgrown => exact hq.elim
  case done =>
    rintro D xs X hDsz hxs ⟨b, μ2, hR2, hI2⟩ hDe
    have hk := hdone b (by rw [← hxs]; exact hI2)
    have hnl : ∀ D' : Nat, X.heap[D']? = some (.deferred (some [])) → ¬ liveM [] (skel (S b).o) μ2 D' := fun D' hD' hl => by
      obtain ⟨obj, g1, g2⟩ := liveM_cells hR2 hl
      rw [hD'] at g1; cases g1; cases g2
    have hold : ∀ D' ∈ Ds, D' < w0.heap.size ∧ X.heap[D']? = some (.deferred (some [])) := fun D' hD' => by
      obtain ⟨g1, g2⟩ := hD.2 D' hD'
      have hlt := (Array.getElem?_eq_some_iff.1 g1).1
      exact ⟨hlt, (hR2.fr.blk D' hlt g2).trans g1⟩
    have hw := hR1.fr.size
    refine ⟨X, liveM [] (skel (S b).o) μ2, W1of X (skel (S b).o) μ2 W, D :: Ds, a, ?_, ⟨List.nodup_cons.2 ⟨fun hm => ?_, hD.1⟩, fun D' hD' => ?_⟩, fun D' hD' => ?_, hR2.fr.size, fun μ st a' w' h => base_out hR2 h, fun k b hb => hb.1, S b, ⟨μ2, base_in hR2⟩, hk⟩
    · simp [ext, dsOf, hR2.df]
    · have := (hold D hm).1; omega
    · rcases List.mem_cons.1 hD' with rfl | h
      · exact ⟨hDe, hnl _ hDe⟩
      · exact ⟨(hold D' h).2, hnl _ (hold D' h).2⟩
    · rcases List.mem_cons.1 hD' with rfl | h
      · exact .inr (by omega)
      · exact .inl h
  case stop =>
    intro D c pre X _ _ hf
    exact hf.elim
theorem evX_ok {an : Ann} {bw : List FuncId} (hN : Γ.B + 16 * N + 16 ≤ 100000) (hP : P.follows .mixedOrders = true) (hT : TabOK P T) (hΓ : ConsOK P N Γ) (hBw : ∀ f, memN bw f = true → BwOK P f) {n : Nat} (hn : 1 ≤ n) : ∀ (c : Code) {w0 : World} {M : Nat → Prop} {W : Wd} {Ds : List Nat} {k : Kt} {μ : Mu} {st : St} {a : Act} {w : World},
    plansOK an c = true → noDefC c = true → (∀ k b, W k b → M b ∨ w0.heap.size ≤ b) → DsOK w0 M Ds → RepM N w0 M W [] μ st a w → evX T Γ N an bw c st k → c.wpIn Fence.wide n P (QX N w0 M W Ds k) (ext a (dsOf Ds)) w := by
  intro c
  have plain : ∀ (c : Code) {w0 : World} {M : Nat → Prop} {W : Wd} {Ds : List Nat} {k : Kt} {μ : Mu} {st : St} {a : Act} {w : World}, plansOK an c = true → noDefC c = true → (∀ k b, W k b → M b ∨ w0.heap.size ≤ b) → DsOK w0 M Ds → RepM N w0 M W [] μ st a w → ev T Γ N an c st k → c.wpIn Fence.wide n P (QX N w0 M W Ds k) (ext a (dsOf Ds)) w := by
    intro c w0 M W Ds k μ st a w hp hd hW hD hR h
    refine wpIn_mono (evIn_ok (ds := dsOf Ds) hN hP hT hΓ hW (.inl rfl) c hp hd hR h) fun e a' w' hq => ?_
    obtain ⟨a0, rfl, hq⟩ := hq
    exact QX.of hW hD hq
  induction c with
  | seq x y ih1 ih2 =>
    intro w0 M W Ds k μ st a w hp hd hW hD hR h
    simp only [plansOK] at hp
    simp only [noDefC] at hd
    split at hp
    · rename_i hp1
      split at hd
      · rename_i hd1
        refine wpIn_seq (wpIn_mono (ih1 hp1 hd1 hW hD hR h) fun e a' w' hq => ?_)
        cases e with
        | normal =>
          obtain ⟨w1, M1, W1, Ds1, a0, rfl, hd1', hsub, hsz, hb, hW1, st', ⟨μ', hR'⟩, hk⟩ := hq
          exact wpIn_mono (ih2 hp hd hW1 hd1' hR' hk) fun e a w h => QX.trans hsub hsz hb h
        | exit id => exact hq
        | ret => exact hq
        | goto l => obtain ⟨w1, M1, W1, Ds1, a0, _, _, _, _, _, _, hq⟩ := hq; exact hq.elim
        | panic c => obtain ⟨w1, M1, W1, Ds1, a0, _, _, _, _, _, _, hq⟩ := hq; exact hq.elim
        | outgrown => obtain ⟨w1, M1, W1, Ds1, a0, _, _, _, _, _, _, hq⟩ := hq; exact hq.elim
      · cases hd
    · cases hp
  | block id x ih =>
    intro w0 M W Ds k μ st a w hp hd hW hD hR h
    refine wpIn_block (wpIn_mono (ih hp hd hW hD hR h) fun e a' w' hq => ?_)
    obtain ⟨w1, M1, W1, Ds1, a0, rfl, hd1, hsub, hsz, hb, hW1, hq⟩ := hq
    cases e with
    | normal => exact ⟨w1, M1, W1, Ds1, a0, rfl, hd1, hsub, hsz, hb, hW1, hq⟩
    | exit id' =>
      obtain ⟨st', hR', hk⟩ := hq
      simp only [Exit.inBlock]
      simp only [blockK] at hk
      rcases beq_cases id' id with ⟨rfl, e⟩ | ⟨hne, e⟩
      · rw [e] at hk; rw [if_pos rfl]; exact ⟨w1, M1, W1, Ds1, a0, rfl, hd1, hsub, hsz, hb, hW1, st', hR', hk⟩
      · rw [e] at hk; rw [if_neg hne]; exact ⟨w1, M1, W1, Ds1, a0, rfl, hd1, hsub, hsz, hb, hW1, st', hR', hk⟩
    | ret => exact ⟨w1, M1, W1, Ds1, a0, rfl, hd1, hsub, hsz, hb, hW1, hq⟩
    | goto l => exact hq.elim
    | panic c => exact hq.elim
    | outgrown => exact hq.elim
  | rangeFunc g ps asg body ih1 ih2 =>
    intro w0 M W Ds k μ st a w hp hd hW hD hR h
    simp only [evX] at h
    split at h
    rotate_left
    · exact h.elim
    rename_i p0 p1 nm hps _ hpl hnd
    split at h
    rotate_left
    · exact h.elim
    rename_i q0 q1 has
    split at h
    rotate_left
    · exact h.elim
    rename_i hsl
    have e : ps = #[p0, p1] := by apply Array.ext'; simpa using hps
    subst e
    split at h
    · rename_i st' hnm
      obtain ⟨μ1, hR1⟩ := norm_ok nm hR hnm
      exact rangeFunc_ok hN hP hT hΓ hBw has hsl hpl hnd hD hR1 h hn
    · exact h.elim
  | _ => intro w0 M W Ds k μ st a w hp hd hW hD hR h; exact plain _ hp hd hW hD hR h

theorem KeepC.trans {w1 w2 w3 : World} (h : KeepC w1 w2) (k : KeepC w2 w3) : KeepC w1 w3 := ⟨Nat.le_trans h.1 k.1, fun b obj h1 h2 => k.2 b obj (h.2 b obj h1 h2) h2⟩
theorem leaves_all {F : Fence} {n : Nat} {fn : Func} {tmps : Array Value} {R : Ending → World → Prop} : ∀ (Ds : List Nat) (w : World), Ds.Nodup → (∀ D ∈ Ds, w.heap[D]? = some (.deferred (some [])) ∧ w0.heap.size ≤ D) → Fr M w0 w →
    (∀ w', KeepC w w' → Fr M w0 w' → ∃ v, (results fn tmps).run P w' = .ok v w' ∧ R (.returned v) w') → LeavesInM F n P fn tmps R (dsOf Ds) .returning w
  | [], w, _, _, hfr, h => h w ⟨Nat.le_refl _, fun _ _ h _ => h⟩ hfr
  | D :: Ds, w, hn, hD, hfr, h => by
    obtain ⟨h1, h2⟩ := hD D (List.mem_cons_self ..)
    obtain ⟨hn1, hn2⟩ := List.nodup_cons.1 hn
    have hk : KeepC w (w.putObj D (.deferred none)) := keepC_grown (grownBy_putObj' w D _) (fun r e => by cases e; exact ⟨_, h1, rfl⟩)
    refine ⟨by simp, .inl ⟨D, w.putObj D (.deferred none), rfl, run_takeDeferred h1, leaves_all Ds _ hn2 (fun D' hD' => ?_) (fr_grown2 hfr (grownBy_putObj' w D _) (fun r e => by cases e; exact h2)) fun w' hk' hf' => h w' (hk.trans hk') hf'⟩⟩
    obtain ⟨g1, g2⟩ := hD D' (List.mem_cons_of_mem _ hD')
    exact ⟨(World.putObj_heap_other (fun e => hn1 (by rw [← e]; exact hD'))).trans g1, g2⟩
/-- A function with ranges over slices.Backward that the evaluator has gone through. -/
theorem holds_of_evX {an : Ann} {bw : List FuncId} {f : FuncId} {fn : Func} {c : Code} {C : Con} {rt : List RT} (hf : P.funcs[f]? = some fn) (hb : fn.body = some c) (hn : fn.ntmps = N) (hN : Γ.B + 16 * N + 16 ≤ 100000) (hmu : C.mu.length ≤ N) (hP : P.follows .mixedOrders = true)
    (hT : TabOK P T) (hΓ : ConsOK P N Γ) (hBw : ∀ f, memN bw f = true → BwOK P f) (hpl : plansOK an c = true) (hnd : noDefC c = true) (h : ∀ vs kk, vs.length = C.mu.length → C.F vs kk → Goes (evX T Γ N an bw c (st0 C vs) (fin T C fn.results.toList rt vs kk))) : Holds P f C := by
  intro vs kk hF kd w vals μ M hkd hpre
  refine (callsIn_wide (n := 3)).1 (callsIn_of_wp_marks hf hb trivial ?_)
  rw [hn]
  obtain ⟨μb, hbeg⟩ := begin_ok (N := N) hpre (by rw [← hpre.nm]; exact hmu) (by omega)
  have hW0 : ∀ k d, (W0 C vs w μ M) k d → M d ∨ w.heap.size ≤ d := fun k d hd => hd.2
  have hx := evX_ok (Ds := []) hN hP hT hΓ hBw (n := 3) (by omega) c hpl hnd hW0 ⟨List.nodup_nil, by simp⟩ hbeg (h vs kk hpre.nm.symm hF).out
  rw [show dsOf [] = [] from rfl, ext_nil] at hx
  refine wpIn_mono hx fun e a' w' hq => ?_
  obtain ⟨w1, M1, W1, Ds1, a0, rfl, hd1, hsub, hsz, hback, hW1, hq⟩ := hq
  have hend : ∀ {e : Ex} {μ' : Mu} {st' : St}, RepM N w1 M1 W1 [] μ' st' a0 w' → fin T C fn.results.toList rt vs kk e st' → LeavesInM Fence.wide 3 P fn (ext a0 (dsOf Ds1)).tmps (Post C vs w μ M kd kk) (ext a0 (dsOf Ds1)).defers .returning w' := by
    intro e μ' st' hR' hk
    have hRw := hback _ _ _ _ hR'
    have hdef : (ext a0 (dsOf Ds1)).defers = dsOf Ds1 := by
      show a0.defers ++ dsOf Ds1 = _
      rw [hR'.df]; rfl
    rw [hdef]
    refine leaves_all (w0 := w) (M := M) Ds1 w' hd1.1 (fun D hD => ⟨?_, (hsub D hD).resolve_left (by simp)⟩) hRw.fr fun w'' hk2 hf2 => ?_
    · obtain ⟨g1, g2⟩ := hd1.2 D hD
      exact (hR'.fr.blk D (Array.getElem?_eq_some_iff.1 g1).1 g2).trans g1
    · exact fin_ok hT hpre (hRw.keepC hk2 hf2) hkd hk
  cases e with
  | normal => obtain ⟨st', ⟨μ', hR'⟩, hk⟩ := hq; exact hend hR' hk
  | ret => obtain ⟨st', ⟨μ', hR'⟩, hk⟩ := hq; exact hend hR' hk
  | exit id => obtain ⟨st', _, hk⟩ := hq; exact hk.elim
  | goto l => exact hq.elim
  | panic c => exact hq.elim
  | outgrown => exact hq.elim
end
end Go.Ev
