/- One operation, executed, the end: every one of them. No statement is proved here. -/
import Derived.Test.YtoclojfcieimfacEvN
namespace Go.Ev
set_option linter.unusedVariables false
open Go

section
variable {P : Program} {T : Tab} {N : Nat} {w0 : World} {M : Nat → Prop} {W : Wd} {lk : List Nat} {μ : Mu} {st : St} {a : Act} {w : World} {K : St → Prop} {next : Act → World → Prop} {Q : Go.Exit → Act → World → Prop}

/-- An append. -/
theorem append_ok (hT : TabOK P T) (hR : RepM N w0 M W lk μ st a w) {t e ty : TypeId} {τ : Ty} (ht : lkp T t = some (.sl e τ)) {S X : Operand} {b : Option Nat} {l r : List τ.D} (hb : baseK lk (st.ev S) = some b)
    (hl : listA τ st.o (st.ev S) = some l) (hr : listA τ st.o (st.ev X) = some r) (hlen : l.length + r.length ≤ 1000000000) (k0 : Nat) (hk0 : k0 < 100000) :
    ∃ μ' v w', (Builtin.append_ #[t, t] ty #[a.eval S, a.eval X]).run P w = .ok v w' ∧ RepM N w0 M W lk μ' ((killO st b).newK k0 (.row τ (l ++ r))) a w' ∧ RA (skel ((killO st b).newK k0 (.row τ (l ++ r))).o) μ' w' (.one (.c (.ow k0))) v := by
  obtain ⟨i, hu, hi, hsz, ⟨z, hz, hz2⟩, hb1, hb2, _⟩ := hT _ _ ht
  obtain ⟨A, c, e1, hc, hm, hbase⟩ := base_ok hR (RA_ev hR S) hl hb
  obtain ⟨A2, c2, e2, hc2, _, hsrc⟩ := listA_src hR (RA_ev hR X) hr
  have hrun := app_run (P := P) (ty := ty) hu hi hsz hz hz2 hb1 hb2 (w := w) (A := A) (c := c) (l := l) (r := r) hc hm (hbase.imp id fun ⟨k, g, o, s, o', cur, ty, h1, _, _, _, _, h2, h3, h4, h5, h6⟩ => ⟨g, o', cur, ty, h2, h4, by omega, h6⟩) hsrc hc2 hlen
  obtain ⟨A', c', w', h1, h2, h3, h4, h5, h6, h7, h8, h9⟩ := hrun
  rw [e1, e2]
  · rcases hbase with ⟨rfl, rfl, rfl⟩ | ⟨k, g, o, s, o', cur, ty2, rfl, hk100, hk, hlk, hmk, hg, hcs, rfl, hfit, hrow⟩
    · have hfr : Fr (fun _ => False) w w' := ⟨h4, h5, h6, h7, fun b hb _ => h8 b hb fun g o' h => by cases h⟩
      obtain ⟨μ', m1, m2⟩ := row_new (killO_ok hR b) k0 hk0 τ ([] ++ r) hfr h2 h3 (h9.imp id fun ⟨g, o', cur, ty', q1, q2, q3, q4, q5⟩ => ⟨g, o', cur, ty', q1, q2, q3, q4, q5.resolve_right fun ⟨o2, h⟩ => by cases h⟩)
      exact ⟨μ', _, w', h1, m1, m2⟩
    · rcases h9 with ⟨rfl, rfl, h9⟩ | ⟨g', o2, cur', ty', q1, rfl, q3, q4, q5⟩
      · have := appK_ok hR hk100 hk hlk hmk k0 hk0 τ (l ++ r) (w' := w') none h4 h5 h6 h7 (fun b hb hne => h8 b hb fun g2 o2 h => by injection h with h; injection h with h; rw [← h]; exact hne) (fun q h => by cases h) (.inl ⟨rfl, h9⟩)
        exact ⟨_, _, w', h1, this, none, _, 0, τ, rfl, newK_sk _ k0 τ (l ++ r), by simpa using h2, Nat.zero_le _, .inl ⟨rfl, rfl⟩⟩
      · have hle : (l ++ r).length * τ.sz ≤ c' * τ.sz := Nat.mul_le_mul_right _ h2
        have := appK_ok hR hk100 hk hlk hmk k0 hk0 τ (l ++ r) (w' := w') (some (g', o2, cur'.size)) h4 h5 h6 h7 (fun b hb hne => h8 b hb fun g2 o2 h => by injection h with h; injection h with h; rw [← h]; exact hne) (fun q h => by
          injection h with h; subst h
          rcases q5 with h | ⟨o3, h⟩
          · exact .inl h
          · injection h with h; injection h with h; exact .inr h.symm) (.inr ⟨g', o2, cur'.size, cur', ty', rfl, q1, rfl, by omega, q4⟩)
        exact ⟨_, _, w', h1, this, some ⟨g', o2, none⟩, _, c', τ, rfl, newK_sk _ k0 τ (l ++ r), h2, h3, .inr ⟨g', o2, cur'.size, o2, upd_same _ _ _, rfl, q3, fun _ => by simp⟩⟩

/-- A copy over a whole row. -/
theorem copy_ok (hT : TabOK P T) (hR : RepM N w0 M W lk μ st a w) {t t' e ty : TypeId} {τ : Ty} (ht : lkp T t = some (.sl e τ)) {S X : Operand} {k : Nat} {l r : List τ.D} (hS : st.ev S = .one (.c (.ow k))) (hlk : memN lk k = false)
    (hl : listA τ st.o (.one (.c (.ow k))) = some l) (hr : listA τ st.o (st.ev X) = some r) (hsz1 : τ.sz = 1) (hlen : l.length = r.length) :
    ∃ w', (Builtin.copy_ #[t, t'] ty #[a.eval S, a.eval X]).run P w = .ok (.int .i64 l.length) w' ∧ RepM N w0 M W lk μ ⟨st.t, setO k (.row τ r) st.o⟩ a w' := by
  obtain ⟨i, hu, hi, hsz, _⟩ := hT _ _ ht
  have hs : (P.info? e).map (·.size) = some 1 := by rw [hi, Option.map_some, hsz, hsz1]
  obtain ⟨A2, c2, e2, hc2, _, hsrc⟩ := listA_src hR (RA_ev hR X) hr
  simp only [listA] at hl
  split at hl
  rotate_left
  · cases hl
  rename_i σ l0 hk
  obtain ⟨rfl, rfl⟩ := castL_ok2 hl
  have hx := RA_ev hR S
  rw [hS] at hx
  obtain ⟨A, n, c, σ2, e1, hs1, h1, h2, h3⟩ := hx
  rw [hR.row hk] at hs1
  injection hs1 with hs1; injection hs1 with e3 e4; subst e3; subst e4
  have hro := hR.ob k _ hk
  rw [e1, e2]
  rcases Nat.eq_zero_or_pos l0.length with hz | hpos
  · have hl0 : l0 = [] := List.eq_nil_of_length_eq_zero hz
    have hr0 : r = [] := List.eq_nil_of_length_eq_zero (by omega)
    subst hl0; subst hr0
    exact ⟨w, run_copy_none w t t' ty e A A2 _ c _ c2 hu hs (by simp), setO_ok hR hk rfl hlk (.inl rfl) fun _ => hro⟩
  · rcases hro with ⟨_, rfl⟩ | ⟨g, o, s, cur, ty', hm, hg, hcs, hfit, hrow⟩
    · simp at hpos
    · rcases h3 with ⟨rfl, rfl⟩ | ⟨g', o2, s', o', hm', rfl, h4, h5⟩
      · omega
      · rw [hm] at hm'
        injection hm' with hm'; injection hm' with a1 a2; injection a2 with a2 a3; subst a1; subst a2; subst a3
        have := h5 hpos
        simp at this; subst this
        rcases hsrc with ⟨_, rfl⟩ | ⟨ad, rfl, hsrc⟩
        · rw [List.length_nil] at hlen; omega
        · have hfl : (flat σ r).length = r.length := by rw [flat_len, hsz1, Nat.mul_one]
          rw [hsz1] at hfit
          have hrun := run_copy_row (P := P) w t t' ty e g o' l0.length c ad r.length c2 cur ty' (flat σ r) hu hs hg (by rw [hfl, hlen]; simp) hsrc (by rw [hfl]; omega) (fun u hu => okV_one.1 (flat_ok σ r u hu))
          rw [hfl] at hrun
          refine ⟨_, by rw [hrun, hlen]; rfl, setO_ok hR hk (by simp [OB.sk, hlen]) hlk (.inr ⟨_, _, hm, rfl⟩) fun hmono => .inr ?_⟩
          refine ⟨g, o', s, _, ty', hm, setRow_heap w g cur _ ty' _ hg, ?_, by rw [hsz1]; omega, rowIs_of fun q y hy => ?_⟩
          · simp [hfl]; omega
          · have hq : q < (flat σ r).length := (List.getElem?_eq_some_iff.1 hy).1
            rw [List.getElem?_toArray, List.append_assoc, List.getElem?_append_right (by simp; omega), List.getElem?_append_left (by simp; omega)]
            simp only [List.length_take, Array.length_toList]
            rw [show o' + q - min o' cur.size = q by omega]
            exact hy

/-! ## Calls -/
theorem RAs_append {S : Sk} {μ : Mu} {w : World} : ∀ {l r : List AV} {ys zs : List Value}, RAs S μ w l ys → RAs S μ w r zs → RAs S μ w (l ++ r) (ys ++ zs)
  | [], _, [], _, _, h => h
  | _ :: _, _, _ :: _, _, h, h' => ⟨h.1, RAs_append h.2 h'⟩
  | [], _, _ :: _, _, h, _ => h.elim
  | _ :: _, _, [], _, h, _ => h.elim
theorem RAs_caps {S : Sk} {μ : Mu} {w : World} : ∀ (l : List Value), RAs S μ w (l.map fun y => .one (.c (.v y))) l
  | [] => trivial
  | _ :: l => ⟨rfl, RAs_caps l⟩
theorem RAs_pes {S : Sk} {μ : Mu} {w : World} : ∀ {cs ps : List Value}, ps.length = cs.length → (∀ (i : Nat) x p, cs[i]? = some x → ps[i]? = some p → PeAt S μ w [x] 0 p) → RAs S μ w (cs.map fun y => .one (.c (.pe [y] 0))) ps
  | [], [], _, _ => trivial
  | x :: cs, p :: ps, h, hp => ⟨hp 0 x p rfl rfl, RAs_pes (by simpa using h) fun i y q h1 h2 => hp (i + 1) y q (by simpa using h1) (by simpa using h2)⟩
  | [], _ :: _, h, _ => by simp at h
  | _ :: _, [], h, _ => by simp at h
theorem asA1_ok {S : Sk} {μ : Mu} {w : World} : ∀ {l : List AV} {av : List A1} {ys : List Value}, RAs S μ w l ys → asA1 l = some av → R1s S μ w av ys
  | [], av, [], _, h => by injection h with h; subst h; trivial
  | .one a :: l, av, y :: ys, h, h' => by
    unfold asA1 at h'
    split at h'
    · rename_i l' h2
      injection h' with h'; subst h'
      exact ⟨h.1, asA1_ok h.2 h2⟩
    · cases h'
  | .tup _ :: _, _, _, _, h' => by cases h'
  | [], _, _ :: _, h, _ => h.elim
  | _ :: _, _, [], h, _ => h.elim
theorem lowN_iff : ∀ {l : List Nat}, lowN l = true → ∀ k ∈ l, k < 100000
  | [], _, k, h => by cases h
  | j :: l, h, k, hk => by
    unfold lowN at h
    split at h
    · rename_i hj
      rcases List.mem_cons.1 hk with rfl | hk
      · simpa using hj
      · exact lowN_iff h k hk
    · cases h
theorem live_mut (hR : RepM N w0 M W lk μ st a w) {C : Con} {av vs : List A1} (hvs : args1 st.o C.ps av = some vs) (hok : mutOK lk C.mu av = true) : ∀ k ∈ mutKeys C.mu av, skel st.o k ≠ none := by
  obtain ⟨hw, hlk, hnd, hst, hone, hlen, hpb⟩ := mutOK_parts hok
  obtain ⟨hm1, _⟩ := mutA_args (ms := C.mu) hvs
  intro k hk
  cases e1 : mutA C.mu av with
  | none => simp [mutKeys, e1] at hk
  | some mx =>
    obtain ⟨m, x⟩ := mx
    rw [mutKeys_of e1] at hk
    obtain ⟨pt, v, _, e3⟩ := hm1 m x e1
    have hwx : whole1 x = true := by simpa [mutWhole, e1] using hw
    rcases arg1_cells e3 hwx with ⟨k', l, ts, l', rfl, hl, _, _⟩ | ⟨ts, hcs, hwc, _⟩
    · simp [keys1, keyC] at hk; subst hk
      exact skel_ne hl
    · rw [keys1_cells] at hk
      obtain ⟨j, c, hc, hkc⟩ := keysCs_inv hk
      have hlt : j < (cells1 v).length := by rw [argCs_len hcs]; exact (List.getElem?_eq_some_iff.1 hc).1
      obtain ⟨t, c2, a1, a2⟩ := argCs_get hcs (List.getElem?_eq_getElem hlt)
      rw [hc] at a1; injection a1 with a1; subst a1
      rcases whole_arg (wholeCs_get hwc hc) a2 with ⟨x, rfl, _⟩ | ⟨rfl, _⟩ | ⟨k2, τ, l, rfl, hl, _⟩
      · simp [keyC] at hkc
      · simp [keyC] at hkc
      · simp [keyC] at hkc; subst hkc; exact skel_ne hl

/-- A call by contract. -/
theorem callC_ok (hR : RepM N w0 M W lk μ st a w) {o : Oper} {C : Con} {f : FuncId} (hf : Holds P f C) {av : List A1} {vals : List Value} (hav : R1s (skel st.o) μ w av vals) (hfree : ∀ k, key o.dst ≤ k → k < key o.dst + 16 → skel st.o k = none)
    (h : callC lk N st o.dst C av K) (hrun : (execOp a.eval o).run P w = .ok (.enter f vals.toArray) w) (hk : ∀ μ' st' a' w', RepM N w0 M W lk μ' st' a' w' → K st' → next a' w') : o.wp P a w next Q := by
  unfold callC at h
  split at h
  · exact h.elim
  · rename_i vs hvs
    split at h
    · rename_i hok hfz hkd hlow
      have hkd : key o.dst + 16 ≤ 100000 := by simpa using hkd
      have hlive := live_mut hR hvs hok
      have hpre := pre_ok hR hav hvs hok hfz
      have hcall := hf vs _ h (key o.dst) w vals _ _ hkd hpre
      simp only [Oper.wp, hrun, Oper.upon]
      refine Calls.mono hcall fun e w' hpost => ?_
      obtain ⟨r, bs, v, μ1, no, hkk, rfl, h1, h2, h3, h4, h5, h6, h7, h8, h9, h10⟩ := hpost
      simp only
      split at hkk
      · exact hkk.elim
      · exact hkk.elim
      · rename_i o' hwb hpl
        obtain ⟨μ', m1, m2⟩ := called hR hvs hok hfz (lowN_iff hlow) hlive hkd hfree hpl h1 h2 h3 h4 h5 h6 h7 h8 h9 h10 hwb
        obtain ⟨st', m3, m4⟩ := putK_ok m1 m2 hkk
        exact hk _ _ _ _ m3 m4
    · exact h.elim

theorem entA_rd : ∀ {ms : List Md} {vs : List A1}, allRd ms = true → ms.length = vs.length → entA ms vs = vs
  | [], [], _, _ => rfl
  | .rd :: ms, v :: vs, h, hl => by
    have := entA_rd (ms := ms) (vs := vs) h (by simpa using hl)
    simp [entA, this]
  | .mu :: _, _, h, _ => by cases h
  | .mv :: _, _, h, _ => by cases h
  | [], _ :: _, _, hl => by simp at hl
  | .rd :: _, [], _, hl => by simp at hl
theorem args1_conf {o : List (Nat × OB)} : ∀ {ps : List PT} {av vs : List A1}, args1 o ps av = some vs → ∀ a ∈ vs, ∀ c ∈ cells1 a, confd c = true
  | [], [], vs, h => by injection h with h; subst h; intro a ha; cases ha
  | t :: ts, a0 :: av, vs, h => by
    unfold args1 at h
    split at h
    · rename_i v0 l h1 h2
      injection h with h; subst h
      intro a ha
      rcases List.mem_cons.1 ha with rfl | ha
      · have hcs : ∀ {o : List (Nat × OB)} {ts : List CT} {cs cs' : List C}, argCs o ts cs = some cs' → ∀ c ∈ cs', confd c = true := by
          intro o ts cs cs' hcs c hc
          obtain ⟨j, hj⟩ := List.getElem?_of_mem hc
          obtain ⟨t, c0, _, a2⟩ := argCs_get hcs hj
          exact argC_conf a2
        unfold arg1 at h1
        split at h1
        · split at h1
          · rename_i c' hc'
            injection h1 with h1; subst h1
            intro c hc; simp [cells1] at hc; subst hc; exact argC_conf hc'
          · cases h1
        · split at h1
          · rename_i l' hc'
            injection h1 with h1; subst h1
            exact hcs hc'
          · cases h1
        · split at h1
          · split at h1
            · rename_i l' hc'
              injection h1 with h1; subst h1
              exact hcs hc'
            · cases h1
          · cases h1
        · cases h1
      · exact args1_conf h2 a ha
    · cases h
  | [], _ :: _, _, h => by cases h
  | _ :: _, [], _, h => by cases h
/-- The call of a function that returns a pointer to a new box. -/
theorem callB_ok (hN : 16 * N + 16 ≤ 100000) (hR : RepM N w0 M W lk μ st a w) {o : Oper} {C : Con} {f : FuncId} (hf : HoldsB P f C) {av : List A1} {vals : List Value} (hav : R1s (skel st.o) μ w av vals)
    (h : callB lk N st o.dst C av K) (hrun : (execOp a.eval o).run P w = .ok (.enter f vals.toArray) w) (hk : ∀ μ' st' a' w', RepM N w0 M W lk μ' st' a' w' → K st' → next a' w') : o.wp P a w next Q := by
  unfold callB at h
  split at h
  · exact h.elim
  · rename_i vs hvs
    split at h
    · rename_i hall hlen hpb hst
      have hlen := Nat.eq_of_beq_eq_true hlen
      have hlen2 : C.mu.length = vs.length := by rw [hlen, args1_len hvs]
      have hin := args_in (S0 := skel st.o) (μ0 := μ) hR (allRd_one hall) hlen hav hvs (fun b _ hh => hh.elim id fun ⟨k, hk, _⟩ => by rw [hst] at hk; cases hk) (fun m x v y pt e1 => by rw [allRd_none hall] at e1; cases e1) hpb
      rw [entA_rd hall hlen2] at hin
      have hup : ∀ b, w.heap.size ≤ b → ¬ Own (skel st.o) μ b := by
        rintro b hb (⟨k, p, hk, hm, rfl⟩ | hfo)
        · have := own_lt hR hk hm; omega
        · exact hfo (hR.fo 0 b (by omega) (hR.up 0 b (by have := hR.fr.size; omega)))
      have hcall := hf vs _ h w vals (skel st.o) μ hup hlen2 hall (args1_conf hvs) hin
      simp only [Oper.wp, hrun, Oper.upon]
      refine Calls.mono hcall fun e w' hpost => ?_
      obtain ⟨l, bs, g, o2, cur, ty, hkk, rfl, h1, h2, h3, h4, h5⟩ := hpost
      simp only at hkk ⊢
      split at hkk
      · rename_i hpl
        have hpl := plainCs_iff.1 hpl
        have hk0 := putK_key hN hkk
        have hnew := newK_ok hR (key o.dst) hk0 (.box l) (some (g, o2, cur.size)) h1 (fun q h => by injection h with h; subst h; exact h2) (fun S' f hf hfp hown => by
          have hmap : l.map f = l := by
            have : l.map f = l.map id := List.map_congr_left fun c hc => hfp c (hpl c hc)
            simpa using this
          refine ⟨g, o2, cur.size, cur, ty, upd_same _ _ _, h3, rfl, by rw [hmap]; exact h4, ?_⟩
          rw [hmap]
          exact h5 S' _ fun b hb hne => hown b (fun q hq => by injection hq with hq; subst hq; exact hne) hb)
        have hsk : skel (st.newK (key o.dst) (.box l)).o (key o.dst) = some .box := by
          unfold St.newK; split
          · simp [skel, lkp, OB.sk]
          · simp [skel, lkp, OB.sk, OB.map]
        obtain ⟨st', m1, m2⟩ := putK_ok hnew (show RA _ _ w' (.one (.c (.pb (key o.dst) 0))) (.pointer (some ⟨g, o2, none⟩)) from ⟨g, o2, cur.size, hsk, upd_same _ _ _, rfl⟩) hkk
        exact hk _ _ _ _ m1 m2
      · exact hkk.elim
    · exact h.elim

set_option maxHeartbeats 1000000 in
/-- Every operation. -/
theorem evOp_ok {Γ : Cons} (hN : 16 * N + 16 ≤ 100000) (hT : TabOK P T) (hΓ : ConsOK P Γ) (hR : RepM N w0 M W lk μ st a w) {o : Oper} (h : evOp T Γ lk N o st K) (hk : ∀ μ' st' a' w', RepM N w0 M W lk μ' st' a' w' → K st' → next a' w') : o.wp P a w next Q := by
  unfold evOp at h
  split at h
  · rename_i x hp
    obtain ⟨v, h1, h2⟩ := pureOp_ok hT hR o (z := x) (by rw [hp]; rfl)
    exact stepV (h2 w (.inl rfl)) hR h1 h hk
  · rename_i c x hp
    obtain ⟨v, h1, h2⟩ := pureOp_ok hT hR o (z := x) (by rw [hp]; exact ⟨h.1, rfl⟩)
    exact stepV (h2 w (.inl rfl)) hR h1 h.2 hk
  · rename_i hp
    obtain ⟨dst, op, type, pos, after, guard⟩ := o
    simp only at h hk
    split at h
    · -- alloc
      rename_i t
      split at h
      · rename_i l hl
        obtain ⟨i, z, h1, h2, h3⟩ := zero_ok hT hl
        obtain ⟨μ', m1, m2⟩ := box_new hR (key dst) (putK_key hN h) t (h3 (skel st.o) μ w)
        exact stepV (by simp [execOp, alloc_run h1 h2 w]) m1 m2 h hk
      · exact h.elim
    · -- box
      rename_i t x
      split at h
      · rename_i z y ht hl
        have hcs := cellsA_ok (RA_ev hR x) hl
        obtain ⟨y', hy'⟩ : ∃ y', (a.eval x).cells.toList = [y'] := by
          have := RCs.len hcs
          match hq : (a.eval x).cells.toList, this with
          | [y'], _ => exact ⟨y', rfl⟩
        rw [hy'] at hcs
        obtain ⟨rfl, hok, _⟩ : y' = y ∧ okV y' = true ∧ True := ⟨hcs.1, hcs.2.1, trivial⟩
        have hc2 : (a.eval x).cells = #[y'] := by apply Array.ext'; simpa using hy'
        obtain ⟨m1, m2⟩ := const_new (t := t) hR hok
        exact stepV (by simp [execOp, box_run, hc2]) m1 m2 h hk
      · rename_i l hl _
        obtain ⟨μ', m1, m2⟩ := box_new hR (key dst) (putK_key hN h) t (cellsA_ok (RA_ev hR x) hl)
        exact stepV (by simp [execOp, box_run]) m1 m2 h hk
      · exact h.elim
    · -- a literal
      rename_i t len parts
      split at h
      · rename_i e τ ht
        split at h
        · rename_i l hl
          split at h
          · rename_i hlen hle
            have hlen := Nat.eq_of_beq_eq_true hlen
            have hle : len ≤ 1000 := by simpa using hle
            obtain ⟨i, hu, hi, hsz, ⟨z, hz, hz2⟩, _⟩ := hT _ _ ht
            have hparts := parts_of hR parts.toList
            obtain ⟨cells, h1, h2⟩ := lit_run (P := P) hu hi hsz hz hl (qs := parts.map fun x => (x.1, a.eval x.2)) (by simpa using hparts) hlen hle w
            have hcs : cells.size = l.length * τ.sz := by rw [← flat_len, ← h1]; simp
            obtain ⟨μ', m1, m2⟩ := row_new hR (key dst) (putK_key hN h) τ l (fr_alloc w (.cells cells e)) (A := some ⟨w.heap.size, 0, none⟩) (c := l.length) (Nat.le_refl _) (by simp only [maxLen]; omega)
              (.inr ⟨w.heap.size, 0, cells, e, by show (w.heap.push _)[w.heap.size]? = _; rw [Array.getElem?_push, if_pos rfl], rfl, by omega, rowIs_of fun q y hy => by rw [Nat.zero_add, ← Array.getElem?_toList, h1]; exact hy, Nat.le_refl _⟩)
            subst hlen
            exact stepV (by simp [execOp, h2]) m1 m2 h hk
          · exact h.elim
        · exact h.elim
      · exact h.elim
    · -- make
      rename_i t x y
      split at h
      · rename_i e τ n m ht hx hy
        obtain ⟨⟨rfl, h0, h1⟩, h⟩ := h
        obtain ⟨i, hu, hi, hsz, ⟨z, hz, hz2⟩, hb1, hb2, _⟩ := hT _ _ ht
        have ex := RA_int (RA_ev hR x) hx
        have ey := RA_int (RA_ev hR y) hy
        obtain ⟨k, rfl⟩ : ∃ k : Nat, n = k := ⟨n.toNat, by omega⟩
        obtain ⟨w', cur, r1, r2, r3, r4, r5⟩ := make_run (P := P) hu hi hsz hz hz2 hb2 (n := k) (by omega) w
        rw [Int.toNat_natCast] at h
        obtain ⟨μ', m1, m2⟩ := row_new hR (key dst) (putK_key hN h) τ (List.replicate k τ.zero) (fr_grown r2) (A := some ⟨w.heap.size, 0, none⟩) (c := k) (by simp) (by simp only [maxLen]; omega)
          (.inr ⟨w.heap.size, 0, cur, e, r3, rfl, by omega, r5, Nat.le_refl _⟩)
        rw [List.length_replicate] at m2
        exact stepV (by simp [execOp, ex, ey, r1]) m1 m2 h hk
      · exact h.elim
    · -- store
      rename_i t x y
      split at h
      · rename_i n cs hn hcs
        split at h
        · rename_i o' ho
          obtain ⟨i, hi, hin⟩ := size_ok hT hn
          obtain ⟨w', r1, r2⟩ := store_ok hR hi hin (cellsA_ok (RA_ev hR y) hcs) ho _ (RA_ev hR x)
          exact stepS (by simp [execOp, r1]) r2 h hk
        · exact h.elim
      · exact h.elim
    · -- calls
      rename_i c
      obtain ⟨callee, args, argTypes⟩ := c
      simp only at h
      split at h
      · -- append
        split at h
        · rename_i s x t t' e1 e2
          split at h
          · rename_i e τ b htt ht hb
            have htt := Nat.eq_of_beq_eq_true htt
            subst htt
            split at h
            · rename_i l r hl hr
              have e1' : args = #[s, x] := by apply Array.ext'; simpa using e1
              have e2' : argTypes = #[t, t] := by apply Array.ext'; simpa using e2
              subst e1'; subst e2'
              obtain ⟨μ', v, w', r1, r2, r3⟩ := append_ok (ty := type) hT hR ht hb hl hr h.1 (key dst) (putK_key hN h.2)
              exact stepV (by simp [execOp, resolve, invoke, builtin, r1]) r2 r3 h.2 hk
            · exact h.elim
          · exact h.elim
        · exact h.elim
      · -- copy
        split at h
        · rename_i s x t t' e1 e2
          split at h
          · rename_i e τ k ht hs
            split at h
            · rename_i l r hlk hl hr hsz
              have hsz := Nat.eq_of_beq_eq_true hsz
              have e1' : args = #[s, x] := by apply Array.ext'; simpa using e1
              have e2' : argTypes = #[t, t'] := by apply Array.ext'; simpa using e2
              subst e1'; subst e2'
              obtain ⟨w', r1, r2⟩ := copy_ok (ty := type) (t' := t') hT hR ht hs hlk hl hr hsz h.1
              exact stepV (v := .int .i64 l.length) (x := VI l.length) (by simp [execOp, resolve, invoke, builtin, r1]) r2 (show _ = _ from rfl) h.2 hk
            · exact h.elim
          · exact h.elim
        · exact h.elim
      · -- a function
        rename_i x
        have hR1 := freeN_ok 16 (key dst) hR
        have hfree1 : ∀ k, key dst ≤ k → k < key dst + 16 → lkp (freeN 16 (key dst) st).o k = none := fun k h1 h2 => freeN_none 16 _ st k h1 h2
        generalize freeN 16 (key dst) st = st1 at *
        split at h
        · rename_i f caps hcal
          -- what is called
          have hexe : ∃ cv : List Value, RAs (skel st1.o) μ w caps cv ∧ (∀ w1 : World, ∀ args' : Array Value, (Deferred.ofValue (a.eval x) args').run P w1 = .ok { target := .fn (.func f) cv.toArray, args := args' } w1) ∧ ∀ S : Sk, (∀ j, S j ≠ none → skel st1.o j ≠ none) → RAs S μ w caps cv := by
            unfold calleeA at hcal
            split at hcal
            · injection hcal with hcal; injection hcal with e1 e2; subst e1; subst e2
              exact ⟨[], trivial, fun w1 args' => by simp [Act.eval, Deferred.ofValue], fun _ _ => trivial⟩
            · split at hcal
              · rename_i f2 cv he
                injection hcal with hcal; injection hcal with e1 e2; subst e1; subst e2
                have hx := RA_ev hR1 x
                rw [he] at hx
                have hx := hx.v
                exact ⟨cv, RAs_caps cv, fun w1 args' => by rw [hx]; simp [Deferred.ofValue], fun _ _ => RAs_caps cv⟩
              · rename_i f2 cs he
                injection hcal with hcal; injection hcal with e1 e2; subst e1; subst e2
                have hx := RA_ev hR1 x
                rw [he] at hx
                obtain ⟨ps, hx, hl, hp⟩ := hx
                refine ⟨ps, RAs_pes hl hp, fun w1 args' => by rw [hx]; simp [Deferred.ofValue], fun S hS => RAs_pes hl fun i x p h1 h2 => ?_⟩
                obtain ⟨b, o, rfl, hc, hlt, hno, hok⟩ := hp i x p h1 h2
                exact ⟨b, o, rfl, hc, hlt, own_sub hS hno, hok⟩
              · cases hcal
          obtain ⟨cv, hcv, hdef, hcvall⟩ := hexe
          split at h
          · rename_i C av hC hav
            obtain ⟨hholds, fn, hfn, hbody, hname⟩ := hΓ f C hC
            have hrun : (execOp a.eval ⟨dst, .call ⟨.value x, args, argTypes⟩, type, pos, after, guard⟩).run P w = .ok (.enter f (args.toList.map a.eval ++ cv).toArray) w := by
              have hb2 : fn.body.isNone = false := by cases e : fn.body <;> simp [e] at hbody ⊢
              have e3 : args.map a.eval ++ cv.toArray = (args.toList.map a.eval ++ cv).toArray := by apply Array.ext'; simp
              simp only [execOp, resolve, Sem.run_bind, hdef, Result.andThen_ok, invoke, callFunc]
              simp [hfn, hname, e3]
              intro hnone
              rw [hnone] at hbody; cases hbody
            split at h
            · rename_i hbox
              rw [hbox] at hholds
              split at h
              · rename_i st2 _ hst2
                have hR2 := frzAll_ok _ hR1 hst2
                split at h
                · rename_i av' hav'
                  exact callB_ok hN hR2 hholds (asA1_ok (RAs_append (RAs_ev hR2 args.toList) (hcvall _ fun j hj e => hj (by simp only [skel, Option.map_eq_none_iff] at e ⊢; exact frzAll_keep _ hst2 e))) hav') h hrun hk
                · exact h.elim
              · exact h.elim
            rename_i hbox
            rw [hbox] at hholds
            split at h
            · exact callC_ok hR1 hholds (asA1_ok (RAs_append (RAs_ev hR1 args.toList) hcv) hav) (fun k h1 h2 => by simp [skel, hfree1 k h1 h2]) h hrun hk
            · split at h
              · rename_i st2 _ hst2
                have hR2 := frzAll_ok _ hR1 hst2
                split at h
                · rename_i av' hav'
                  exact callC_ok hR2 hholds (asA1_ok (RAs_append (RAs_ev hR2 args.toList) (hcvall _ fun j hj e => hj (by simp only [skel, Option.map_eq_none_iff] at e ⊢; exact frzAll_keep _ hst2 e))) hav') (fun k h1 h2 => by simp [skel, frzAll_keep _ hst2 (hfree1 k h1 h2)]) h hrun hk
                · exact h.elim
              · exact h.elim
          · exact h.elim
        · exact h.elim
      · exact h.elim
    · exact h.elim
end
end Go.Ev
