/- One operation, executed. No statement is proved here. -/
import Derived.Test.YtnkmhjdenddpbacEvM
namespace Go.Ev
set_option linter.unusedVariables false
open Go

theorem setsL_get {α : Type} : ∀ (vs l : List α) (o q : Nat), o + vs.length ≤ l.length → (setsL l o vs)[q]? = if o ≤ q ∧ q < o + vs.length then vs[q - o]? else l[q]?
  | [], l, o, q, _ => by
    simp only [setsL, List.length_nil, Nat.add_zero]
    rw [if_neg (by omega)]
  | v :: vs, l, o, q, h => by
    simp only [List.length_cons] at h
    rw [setsL, setsL_get vs (l.set o v) (o + 1) q (by simp; omega)]
    by_cases h1 : o + 1 ≤ q ∧ q < o + 1 + vs.length
    · rw [if_pos h1, if_pos (by simp; omega)]
      obtain ⟨j, rfl⟩ : ∃ j, q = o + 1 + j := ⟨q - (o + 1), by omega⟩
      rw [show o + 1 + j - (o + 1) = j by omega, show o + 1 + j - o = j + 1 by omega]; rfl
    · rw [if_neg h1]
      by_cases h2 : q = o
      · subst h2
        rw [if_pos (by simp), Nat.sub_self, List.getElem?_set_self (by omega)]; rfl
      · rw [if_neg (by simp; omega), List.getElem?_set_ne (Ne.symm h2)]
theorem setsL_window {α : Type} : ∀ (vs L : List α) (o j m : Nat), j + vs.length ≤ m → ((setsL L (o + j) vs).drop o).take m = setsL ((L.drop o).take m) j vs
  | [], L, o, j, m, _ => rfl
  | v :: vs, L, o, j, m, h => by
    simp only [List.length_cons] at h
    rw [setsL, setsL, show o + j + 1 = o + (j + 1) by omega, setsL_window vs _ o (j + 1) m (by omega)]
    congr 1
    rw [List.drop_set, if_neg (by omega), List.take_set, show o + j - o = j by omega]
theorem RCs.okV {S : Sk} {μ : Mu} {w : World} : ∀ {cs : List C} {ys : List Value}, RCs S μ w cs ys → ∀ y ∈ ys, okV y = true
  | [], [], _, y, h => by cases h
  | c :: cs, y :: ys, h, z, hz => by
    rcases List.mem_cons.1 hz with rfl | hz
    · exact h.2.1
    · exact RCs.okV h.2.2 z hz
  | [], _ :: _, h, _, _ => h.elim
  | _ :: _, [], h, _, _ => h.elim
/-- A row in which one element is laid anew. -/
theorem rowIs_set {cur cur' : Array Value} {o i : Nat} {τ : Ty} {l : List τ.D} {e : τ.D} (h : RowIs cur o τ l)
    (hin : ∀ j y, (τ.enc e)[j]? = some y → cur'[o + i * τ.sz + j]? = some y)
    (hout : ∀ q j, q ≠ i → j < τ.sz → cur'[o + q * τ.sz + j]? = cur[o + q * τ.sz + j]?) : RowIs cur' o τ (l.set i e) := by
  intro q x hx j y hy
  have hj : j < τ.sz := by
    have := (List.getElem?_eq_some_iff.1 hy).1
    rwa [enc_len] at this
  by_cases hq : q = i
  · subst hq
    have hlt : q < l.length := by simpa using (List.getElem?_eq_some_iff.1 hx).1
    rw [List.getElem?_set_self hlt] at hx
    injection hx with hx; subst hx
    exact hin j y hy
  · rw [List.getElem?_set_ne (Ne.symm hq)] at hx
    rw [hout q j hq hj]
    exact h q x hx j y hy
theorem sz_apart {τ : Ty} {q i j j' : Nat} (hq : q ≠ i) (hj : j < τ.sz) (hj' : j' < τ.sz) (o : Nat) : o + q * τ.sz + j ≠ o + i * τ.sz + j' := by
  cases τ <;> simp only [Ty.sz] at * <;> omega
theorem sz_fit {τ : Ty} {i n j : Nat} (hi : i < n) (hj : j < τ.sz) : i * τ.sz + j < n * τ.sz := by
  cases τ <;> simp only [Ty.sz] at * <;> omega
theorem sz_fit' {τ : Ty} {i n : Nat} (hi : i < n) : i * τ.sz + τ.sz ≤ n * τ.sz := by
  cases τ <;> simp only [Ty.sz] at * <;> omega

section
variable {P : Program} {T : Tab} {N : Nat} {w0 : World} {M : Nat → Prop} {W : Wd} {lk : List Nat} {μ : Mu} {st : St} {a : Act} {w : World} {K : St → Prop} {next : Act → World → Prop} {Q : Go.Exit → Act → World → Prop}

theorem stepV {o : Oper} {v : Value} {w' : World} {μ1 : Mu} {st1 : St} {x : AV} (hrun : (execOp a.eval o).run P w = .ok (.value v) w') (hR : RepM N w0 M W lk μ1 st1 a w') (hx : RA (skel st1.o) μ1 w' x v) (h : putK N o.dst x st1 K)
    (hk : ∀ μ' st' a' w', RepM N w0 M W lk μ' st' a' w' → K st' → next a' w') : o.wp P a w next Q := by
  obtain ⟨st', h1, h2⟩ := putK_ok hR hx h
  simp only [Oper.wp, hrun, Oper.upon]
  exact hk _ _ _ _ h1 h2
theorem stepS {o : Oper} {w' : World} {μ1 : Mu} {st1 : St} (hrun : (execOp a.eval o).run P w = .ok .skip w') (hR : RepM N w0 M W lk μ1 st1 a w') (h : putK N o.dst (V undef) st1 K)
    (hk : ∀ μ' st' a' w', RepM N w0 M W lk μ' st' a' w' → K st' → next a' w') : o.wp P a w next Q := by
  obtain ⟨st', h1, h2⟩ := putK_ok hR (show RA (skel st1.o) μ1 w' (V undef) undef from rfl) h
  simp only [Oper.wp, hrun, Oper.upon]
  exact hk _ _ _ _ h1 h2

theorem putK_key {B : Nat} (hN : B + 16 * N + 16 ≤ 100000) {d : Option Nat} {x : AV} (h : putK N d x st K) : B + key d < 100000 := by
  cases d with
  | none => simp only [key]; omega
  | some d =>
    simp only [putK] at h
    split at h
    · rename_i hb
      have : d < N := by simpa using hb
      simp only [key]; omega
    · exact h.elim
theorem fr_alloc (w : World) (o : Obj) : Fr (fun _ => False) w (w.alloc o) :=
  ⟨rfl, rfl, rfl, by show w.heap.size ≤ (w.heap.push o).size; rw [Array.size_push]; omega, fun b hb _ => by show (w.heap.push o)[b]? = _; rw [Array.getElem?_push, if_neg (by omega)]⟩
theorem fr_grown {w w' : World} (h : w.grownBy w' none) : Fr (fun _ => False) w w' := ⟨h.os, h.tape, h.output, h.size, fun b hb _ => h.block b hb (by simp)⟩
/-- New blocks change nothing of what is known. -/
theorem grow_ok (hR : RepM N w0 M W lk μ st a w) {w' : World} (hw : Fr (fun _ => False) w w') : RepM N w0 M W lk μ st a w' :=
  hR.changeZ (st' := st) (fun c => c) (fun _ => False) (fun i => (AV.map_id _).symm) (fun c y h => h.mono (fun _ _ hs => hs) (fun _ _ => rfl) (fun b hb hno => ⟨hw.blk b hb (fun h => h), hno⟩) hw.size)
    (fun k ob' e _ => ⟨ob', e, (OB.map_id _).symm, rfl, fun p hp => hw.blk _ (own_lt hR (skel_ne e) hp) (fun h => h)⟩) (fun _ _ h => h.elim) (fun _ _ h => h.elim) ⟨rfl, fun _ _ => rfl, fun _ _ h => h.elim⟩
    ⟨hw.os.trans hR.fr.os, hw.tape.trans hR.fr.tape, hw.output.trans hR.fr.output, Nat.le_trans hR.fr.size hw.size, fun b hb hm => (hw.blk b (Nat.lt_of_lt_of_le hb hR.fr.size) (fun h => h)).trans (hR.fr.blk b hb hm)⟩
/-- A cell that nobody writes to, in a new block. -/
theorem const_new (hR : RepM N w0 M W lk μ st a w) {y : Value} {t : TypeId} (hy : okV y = true) :
    RepM N w0 M W lk μ st a (w.alloc (.cells #[y] t)) ∧ RA (skel st.o) μ (w.alloc (.cells #[y] t)) (.one (.c (.pe [y] 0))) (.pointer (some ⟨w.heap.size, 0, none⟩)) := by
  have hsz : (w.alloc (.cells #[y] t)).heap.size = w.heap.size + 1 := by show (w.heap.push _).size = _; rw [Array.size_push]
  have hget : (w.alloc (.cells #[y] t)).heap[w.heap.size]? = some (.cells #[y] t (0, 0)) := by show (w.heap.push _)[w.heap.size]? = _; rw [Array.getElem?_push, if_pos rfl]
  refine ⟨grow_ok hR (fr_alloc w _), w.heap.size, 0, rfl, fun q x hx => ?_, by omega, ?_, fun x hx => by rw [List.mem_singleton.1 hx]; exact hy⟩
  · rw [cell_of_heap hget]
    cases q with
    | zero => simpa using hx
    | succ q => simp at hx
  · rintro (⟨k, p, hs, hp, e⟩ | hf)
    · have := own_lt hR hs hp; omega
    · exact hf (hR.fo 0 _ (by omega) (hR.up 0 _ hR.fr.size))
/-- A box, in a new block. -/
theorem box_new (hR : RepM N w0 M W lk μ st a w) (k : Nat) (hk : k < 100000) {l : List C} {cells : Array Value} (t : TypeId) (hl : RCs (skel st.o) μ w l cells.toList) :
    ∃ μ', RepM N w0 M W lk μ' (st.newK k (.box l)) a (w.alloc (.cells cells t)) ∧ RA (skel (st.newK k (.box l)).o) μ' (w.alloc (.cells cells t)) (.one (.c (.pb k 0))) (.pointer (some ⟨w.heap.size, 0, none⟩)) := by
  refine ⟨_, newK_ok hR k hk (.box l) (some (w.heap.size, 0, cells.size)) (fr_alloc w _) (fun q h => by injection h with h; subst h; exact Nat.le_refl _) (fun S' f hf _ _ => ?_), ?_⟩
  · refine ⟨w.heap.size, 0, cells.size, cells, t, upd_same _ _ _, by show (w.heap.push _)[w.heap.size]? = _; rw [Array.getElem?_push, if_pos rfl], rfl, ?_, ?_⟩
    · have := RCs.len hl; simp at this ⊢; omega
    · have := RCs.map (f := f) hf hl
      have h2 := RCs.len hl
      rw [List.drop_zero, List.length_map, ← h2, List.take_length]
      exact this
  · have : lkp (st.newK k (.box l)).o k ≠ none ∧ skel (st.newK k (.box l)).o k = some .box := by
      unfold St.newK; split
      · exact ⟨by rw [lkp_cons_same]; simp, by simp [skel, lkp, OB.sk]⟩
      · exact ⟨by rw [lkp_cons_same]; simp, by simp [skel, lkp, OB.sk, OB.map]⟩
    exact ⟨w.heap.size, 0, cells.size, this.2, upd_same _ _ _, rfl⟩
/-- A row, in a new block, or nowhere. -/
theorem row_new (hR : RepM N w0 M W lk μ st a w) (k : Nat) (hk : k < 100000) (τ : Ty) (l : List τ.D) {w' : World} (hw : Fr (fun _ => False) w w') {A : Option Addr} {c : Nat} (hc : l.length ≤ c) (hm : c ≤ maxLen)
    (h : (A = none ∧ c = 0 ∧ l = []) ∨ ∃ g o' cur ty', w'.heap[g]? = some (.cells cur ty' (0, 0)) ∧ A = some ⟨g, o', none⟩ ∧ o' + c * τ.sz ≤ cur.size ∧ RowIs cur o' τ l ∧ w.heap.size ≤ g) :
    ∃ μ', RepM N w0 M W lk μ' (st.newK k (.row τ l)) a w' ∧ RA (skel (st.newK k (.row τ l)).o) μ' w' (.one (.c (.ow k))) (.slice A l.length c) := by
  rcases h with ⟨rfl, rfl, rfl⟩ | ⟨g, o', cur, ty', h1, rfl, h3, h4, h5⟩
  · exact ⟨_, newK_ok hR k hk (.row τ []) none hw (fun q h => by cases h) (fun S' f hf _ _ => .inl ⟨upd_same _ _ _, rfl⟩), none, 0, 0, τ, rfl, newK_sk st k τ [], Nat.le_refl _, Nat.zero_le _, .inl ⟨rfl, rfl⟩⟩
  · have hle : l.length * τ.sz ≤ c * τ.sz := Nat.mul_le_mul_right _ hc
    refine ⟨_, newK_ok hR k hk (.row τ l) (some (g, o', cur.size)) hw (fun q h => by injection h with h; subst h; exact h5) (fun S' f hf _ _ => .inr ⟨g, o', cur.size, cur, ty', upd_same _ _ _, h1, rfl, by omega, h4⟩), some ⟨g, o', none⟩, l.length, c, τ, rfl, newK_sk st k τ l, hc, hm, .inr ⟨g, o', cur.size, o', upd_same _ _ _, rfl, h3, fun _ => by simp⟩⟩

theorem cst1_RC {S : Sk} {μ : Mu} {w : World} (z : Value) : RC S μ w (cst1 z) z := by
  have h := RA_cst (S := S) (μ := μ) (w := w) z
  unfold cst1; split
  · rfl
  · rfl
theorem zero_ok (hT : TabOK P T) {t : TypeId} {l : List C} (h : zeroCells T t = some l) : ∃ i z, P.info? t = some i ∧ i.zero = some z ∧ ∀ (S : Sk) (μ : Mu) (w : World), RCs S μ w l z.cells.toList := by
  unfold zeroCells at h
  split at h
  · rename_i z hl
    injection h with h; subst h
    obtain ⟨i, d, h1, h2, h3, h4, _⟩ := hT _ _ hl
    refine ⟨i, z, h1, h3, fun S μ w => ?_⟩
    cases z <;> first | (cases h4; done) | exact ⟨cst1_RC _, rfl, trivial⟩
  · rename_i fs z hl
    injection h with h; subst h
    obtain ⟨i, flds, h1, h2, h3, h4, _⟩ := hT _ _ hl
    refine ⟨i, _, h1, h3, fun S μ w => ?_⟩
    have := okVs_RCs (S := S) (μ := μ) (w := w) h4
    simpa [Value.cells] using this
  · rename_i e τ hl
    injection h with h; subst h
    obtain ⟨i, _, _, _, _, _, _, i', h1, h2, h3⟩ := hT _ _ hl
    exact ⟨i', _, h1, h3, fun S μ w => ⟨rfl, rfl, trivial⟩⟩
  · rename_i e τ hl
    injection h with h; subst h
    obtain ⟨i, _, _, _, _, _, i', h1, h2, h3⟩ := hT _ _ hl
    exact ⟨i', _, h1, h3, fun S μ w => ⟨rfl, rfl, trivial⟩⟩
  · cases h
theorem size_ok (hT : TabOK P T) {t : TypeId} {n : Nat} (h : sizeT T t = some n) : ∃ i, P.info? t = some i ∧ i.size = n := by
  unfold sizeT at h
  split at h
  · rename_i z hl
    injection h with h; subst h
    obtain ⟨i, d, h1, h2, _⟩ := hT _ _ hl
    exact ⟨i, h1, h2⟩
  · rename_i fs z hl
    injection h with h; subst h
    obtain ⟨i, flds, h1, h2, _⟩ := hT _ _ hl
    exact ⟨i, h1, h2⟩
  · rename_i e τ hl
    injection h with h; subst h
    obtain ⟨i, _, _, _, _, _, _, i', h1, h2, h3⟩ := hT _ _ hl
    exact ⟨i', h1, h2⟩
  · rename_i e τ hl
    injection h with h; subst h
    obtain ⟨i, _, _, _, _, _, i', h1, h2, h3⟩ := hT _ _ hl
    exact ⟨i', h1, h2⟩
  · cases h

/-- A store. -/
theorem store_ok (hR : RepM N w0 M W lk μ st a w) {t : TypeId} {i : TypeInfo} (hi : P.info? t = some i) {n : Nat} (hn : i.size = n) {X : AV} {x : Value} {cs : List C} (hx : RCs (skel st.o) μ w cs x.cells.toList) {o' : List (Nat × OB)}
    (h : storeA lk st.o n cs X = some o') : ∀ y, RA (skel st.o) μ w X y → ∃ w', (Instr.storeAt t y x).run P w = .ok () w' ∧ RepM N w0 M W lk μ ⟨st.t, o'⟩ a w' := by
  intro y hy
  have hxl := RCs.len hx
  unfold storeA at h
  split at h
  · rename_i k j
    split at h
    · rename_i l hlk hl hcn
      have hcn := Nat.eq_of_beq_eq_true hcn
      split at h
      · rename_i hfit
        have hfit : j + n ≤ l.length := by simpa using hfit
        injection h with h; subst h
        obtain ⟨g, o, s, _, hm, rfl⟩ := hy
        obtain ⟨g', o2, s', cur, ty, hm', hh, hs, hle, hr⟩ := hR.ob k _ hl
        rw [hm] at hm'
        injection hm' with hm'; injection hm' with e1 e2; injection e2 with e2 e3; subst e1; subst e2; subst e3
        have hsz : x.cells.size = i.size := by rw [hn, ← hcn, ← hxl]; simp
        refine ⟨_, store_run hi hsz (RCs.okV hx) hh (by omega), setO_ok hR hl (by simp [OB.sk]) hlk (.inr ⟨_, _, hm, rfl⟩) fun hmono => ?_⟩
        refine ⟨g, o, s, _, ty, hm, setRow_heap w g cur _ ty _ hh, ?_, ?_, ?_⟩
        · simp [setsL_len, hs]
        · rw [setsL_len]; exact hle
        · rw [setsL_len]
          show RCs _ _ _ _ ((setsL cur.toList (o + j) x.cells.toList).drop o |>.take l.length)
          rw [setsL_window _ _ _ _ _ (by rw [hxl]; omega)]
          exact RCs.sets j (hr.imp hmono) (hx.imp hmono)
      · cases h
    · cases h
  · rename_i k q j
    split at h
    · rename_i τ l vs hlk hl hcn hcv
      have hcn := Nat.eq_of_beq_eq_true hcn
      obtain ⟨g, o, s, σ, m, hsk, hq, hm, rfl⟩ := hy
      rw [hR.row hl] at hsk
      injection hsk with hsk; injection hsk with e1 e2; subst e1; subst e2
      rcases hR.ob k _ hl with ⟨hn0, _⟩ | ⟨g', o2, s', cur, ty, hm', hh, hs, hle, hr⟩
      · rw [hm] at hn0; cases hn0
      rw [hm] at hm'
      injection hm' with hm'; injection hm' with e1 e2; injection e2 with e2 e3; subst e1; subst e2; subst e3
      have hvs := cvals_ok hx hcv
      have hsz : x.cells.size = i.size := by rw [hn, ← hcn, ← hxl]; simp
      have hlen : vs.length = n := by rw [← hvs, hxl, hcn]
      split at h
      · rename_i x1
        split at h
        · rename_i e hj he
          have hj : j < τ.sz := by simpa using hj
          injection h with h; subst h
          have hfit := sz_fit (τ := τ) hq hj
          have he' := dec_enc he
          have h1 : n = 1 := by simpa using hlen.symm
          refine ⟨_, store_run hi hsz (RCs.okV hx) hh (by omega), setO_ok hR hl (by simp [OB.sk]) hlk (.inr ⟨_, _, hm, rfl⟩) fun hmono => .inr ?_⟩
          refine ⟨g, o, s, _, ty, hm, setRow_heap w g cur _ ty _ hh, by simp [setsL_len, hs], by simpa using hle, rowIs_set hr (fun j' y hy => ?_) (fun q' j' hq' hj' => ?_)⟩
          · rw [List.getElem?_toArray, hvs, setsL_get _ _ _ _ (by simp; omega)]
            have hj' : j' < τ.sz := by
              have := (List.getElem?_eq_some_iff.1 hy).1
              rwa [enc_len] at this
            rw [he'] at hy
            by_cases hjj : j' = j
            · subst hjj
              rw [List.getElem?_set_self (by rw [enc_len]; exact hj)] at hy
              rw [if_pos (by simp), Nat.sub_self]; exact hy
            · rw [List.getElem?_set_ne (Ne.symm hjj)] at hy
              rw [if_neg (by simp; omega), Array.getElem?_toList]
              have hx0 : l[q]? = some (l.getD q τ.zero) := by simp [hq]
              exact hr q _ hx0 j' y hy
          · rw [List.getElem?_toArray, hvs, setsL_get _ _ _ _ (by simp; omega), if_neg, Array.getElem?_toList]
            have := sz_apart (τ := τ) hq' hj' hj o
            simp; omega
        · cases h
      · split at h
        · rename_i e hj hnn he
          have hj := Nat.eq_of_beq_eq_true hj
          have hnn := Nat.eq_of_beq_eq_true hnn
          subst hj
          injection h with h; subst h
          have hfit := sz_fit' (τ := τ) hq
          have he' := dec_enc he
          refine ⟨_, store_run hi hsz (RCs.okV hx) hh (by omega), setO_ok hR hl (by simp [OB.sk]) hlk (.inr ⟨_, _, hm, rfl⟩) fun hmono => .inr ?_⟩
          refine ⟨g, o, s, _, ty, hm, setRow_heap w g cur _ ty _ hh, by simp [setsL_len, hs], by simpa using hle, rowIs_set hr (fun j' y hy => ?_) (fun q' j' hq' hj' => ?_)⟩
          · rw [List.getElem?_toArray, hvs, setsL_get _ _ _ _ (by simp; omega)]
            have hj' : j' < τ.sz := by
              have := (List.getElem?_eq_some_iff.1 hy).1
              rwa [enc_len] at this
            rw [he'] at hy
            rw [if_pos (by omega), show o + q * τ.sz + j' - (o + q * τ.sz + 0) = j' by omega]
            exact hy
          · rw [List.getElem?_toArray, hvs, setsL_get _ _ _ _ (by simp; omega), if_neg, Array.getElem?_toList]
            rintro ⟨h1, h2⟩
            have := sz_apart (τ := τ) (j' := o + q' * τ.sz + j' - (o + q * τ.sz)) hq' hj' (by omega) o
            omega
        · cases h
    · cases h
  · cases h
end
end Go.Ev
