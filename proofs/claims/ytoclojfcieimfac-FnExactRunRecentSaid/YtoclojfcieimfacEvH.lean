/- Memory: literals, make, copy, stores, new variables. No statement is proved here. -/
import Derived.Test.YtoclojfcieimfacEvG
namespace Go.Ev
set_option linter.unusedVariables false
open Go

theorem dec_enc {τ : Ty} {vs : List Value} {e : τ.D} (h : τ.dec vs = some e) : τ.enc e = vs := by
  unfold Ty.dec at h
  split at h <;> first | (injection h with h; subst h; rfl) | (cases h; done)
theorem cvals_ok {S : Sk} {μ : Mu} {w : World} : ∀ {l : List C} {ys vs : List Value}, RCs S μ w l ys → cvals l = some vs → ys = vs
  | [], [], vs, _, h => by injection h
  | [], _ :: _, _, h, _ => h.elim
  | _ :: _, [], _, h, _ => h.elim
  | c :: l, y :: ys, vs, h, hc => by
    unfold cvals at hc
    split at hc
    · rename_i e; cases e
    · rename_i x r e
      injection e with e1 e2; subst e1; subst e2
      split at hc
      · rename_i l' hl'
        injection hc with hc; subst hc
        obtain rfl : y = x := h.1
        rw [cvals_ok h.2.2 hl']
      · cases hc
    · cases hc

section
variable {P : Program} {T : Tab} {S : Sk} {μ : Mu} {w : World}

theorem elemA_ok {τ : Ty} {X : AV} {x : Value} {e : τ.D} (hX : RA S μ w X x) (h : elemA τ X = some e) : x.cells.toList = τ.enc e := by
  unfold elemA at h
  split at h
  · rename_i l hl
    split at h
    · rename_i vs hvs
      rw [dec_enc h]
      exact cvals_ok (cellsA_ok hX hl) hvs
    · cases h
  · cases h
theorem setsL_append {α : Type} : ∀ (xs ys l : List α) (o : Nat), setsL l o (xs ++ ys) = setsL (setsL l o xs) (o + xs.length) ys
  | [], ys, l, o => rfl
  | x :: xs, ys, l, o => by
    rw [List.cons_append, setsL, setsL_append xs ys, setsL, List.length_cons]
    congr 1; omega
theorem setsL_len {α : Type} : ∀ (xs l : List α) (o : Nat), (setsL l o xs).length = l.length
  | [], l, o => rfl
  | x :: xs, l, o => by rw [setsL, setsL_len xs]; simp
theorem fillRow {τ : Ty} : ∀ {ps : List (Nat × AV)} {qs : List (Nat × Value)} {k : Nat} {l : List τ.D} {cells : Array Value}, rowA τ k ps = some l → Parts S μ w ps qs → (k + l.length) * τ.sz ≤ cells.size →
    ∃ cells', Instr.fill (fun i => some (i * τ.sz, τ.sz)) cells qs = some cells' ∧ cells'.toList = setsL cells.toList (k * τ.sz) (flat τ l)
  | [], [], k, l, cells, h, _, _ => by injection h with h; subst h; exact ⟨cells, rfl, rfl⟩
  | (i, x) :: ps, (j, y) :: qs, k, l, cells, h, hq, hsz => by
    obtain ⟨rfl, hx, hq⟩ := hq
    unfold rowA at h
    split at h
    · rename_i hb
      have hik : i = k := Nat.eq_of_beq_eq_true hb
      subst hik
      split at h
      · rename_i e he
        split at h
        · rename_i l' hl'
          injection h with h; subst h
          simp only [List.length_cons] at hsz
          have hy := elemA_ok hx he
          have hys : y.cells.size = τ.sz := by
            have : y.cells.toList.length = τ.sz := by rw [hy, enc_len]
            simpa using this
          have hfit : i * τ.sz + τ.sz ≤ cells.size := by
            have h2 : (i + 1) * τ.sz ≤ (i + (l'.length + 1)) * τ.sz := Nat.mul_le_mul_right _ (by omega)
            rw [Nat.add_mul, Nat.one_mul] at h2
            omega
          have e1 : (Array.foldl (fun cs (x : Value × Nat) => cs.setIfInBounds (i * τ.sz + x.2) x.1) cells y.cells.zipIdx).toList = setsL cells.toList (i * τ.sz) (τ.enc e) := by
            rw [← Array.foldl_toList, Array.toList_zipIdx, ← hy]
            simpa using fold_sets y.cells.toList 0 cells (i * τ.sz)
          have hsz2 : (Array.foldl (fun cs (x : Value × Nat) => cs.setIfInBounds (i * τ.sz + x.2) x.1) cells y.cells.zipIdx).size = cells.size := by
            have := congrArg List.length e1
            rw [setsL_len] at this
            simpa using this
          obtain ⟨cells', h1, h2⟩ := fillRow (k := i + 1) (cells := Array.foldl (fun cs (x : Value × Nat) => cs.setIfInBounds (i * τ.sz + x.2) x.1) cells y.cells.zipIdx) hl' hq (by rw [hsz2]; rw [show i + 1 + l'.length = i + (l'.length + 1) by omega]; exact hsz)
          refine ⟨cells', ?_, ?_⟩
          · unfold Instr.fill
            simp only []
            rw [if_neg (by simp; omega)]
            exact h1
          · rw [h2, e1, flat, setsL_append, enc_len, Nat.add_mul, Nat.one_mul]
        · cases h
      · cases h
    · cases h
  | [], _ :: _, _, _, _, _, hq, _ => hq.elim
  | _ :: _, [], _, _, _, _, hq, _ => hq.elim

/-- A literal. -/
theorem lit_run {t e : TypeId} {i : TypeInfo} {τ : Ty} (hu : P.underlying t = some (.slice e)) (hi : P.info? e = some i) (hsz : i.size = τ.sz) {z : Value} (hz : i.zero = some z)
    {ps : List (Nat × AV)} {qs : Array (Nat × Value)} {l : List τ.D} {len : Nat} (h : rowA τ 0 ps = some l) (hq : Parts S μ w ps qs.toList) (hl : l.length = len) (hlen : len ≤ 1000) (w' : World) :
    ∃ cells : Array Value, cells.toList = flat τ l ∧ (Instr.buildSlice t len qs).run P w' = .ok (.slice (some ⟨w'.heap.size, 0, none⟩) len len) (w'.alloc (.cells cells e)) := by
  have hpos := sz_pos τ
  have hsz3 : τ.sz ≤ 3 := by cases τ <;> simp [Ty.sz]
  have hbig : ¬ len * i.size > 2 ^ 24 := by
    rw [hsz]
    have : len * τ.sz ≤ 1000 * 3 := Nat.mul_le_mul hlen hsz3
    omega
  by_cases h0 : len = 0
  · subst h0
    obtain rfl : l = [] := List.eq_nil_of_length_eq_zero hl
    have hps : ps = [] := by
      cases ps with
      | nil => rfl
      | cons p ps =>
        obtain ⟨j, x⟩ := p
        unfold rowA at h
        split at h
        · split at h
          · split at h <;> cases h
          · cases h
        · cases h
    subst hps
    have hqs : qs = #[] := by
      cases hqq : qs.toList with
      | nil => apply Array.ext'; simpa using hqq
      | cons a b => rw [hqq] at hq; exact hq.elim
    subst hqs
    refine ⟨#[], rfl, ?_⟩
    simp [Instr.buildSlice, run_underlying hu, sizeOf, typeInfo, zeroValue, hi, hz, newRow, Instr.fill]
    congr 2
    apply Array.ext'; simp
  · have hne : ¬ len * i.size = 0 := by
      rw [hsz]
      have : 0 < len * τ.sz := Nat.mul_pos (by omega) hpos
      omega
    obtain ⟨cells, h1, h2⟩ := fillRow (cells := (Array.range (len * τ.sz)).map (z.cells[· % z.cells.size]!)) h hq (by simp [hl])
    have hlen2 : ((Array.range (len * τ.sz)).map (z.cells[· % z.cells.size]!)).toList.length = (flat τ l).length := by rw [flat_len, hl]; simp
    refine ⟨cells, ?_, run_buildSlice w' t e len qs cells i z hu hi hz hbig hne (by rw [hsz]; exact h1)⟩
    rw [h2, Nat.zero_mul, setsL_eq _ _ _ (by omega), List.take_zero, List.nil_append, Nat.zero_add, ← hlen2, List.drop_length, List.append_nil]

/-- make. -/
theorem make_run {t e : TypeId} {i : TypeInfo} {τ : Ty} (hu : P.underlying t = some (.slice e)) (hi : P.info? e = some i) (hsz : i.size = τ.sz) {z : Value} (hz : i.zero = some z) (hz2 : z.cells.toList = τ.enc τ.zero)
    (hb2 : i.bytes ≤ 100) {n : Nat} (hn : n ≤ 1000000000) (w : World) :
    ∃ w' cur, (Instr.makeSlice t (.int .i64 (n : Int)) (.int .i64 (n : Int))).run P w = .ok (.slice (some ⟨w.heap.size, 0, none⟩) n n) w' ∧ w.grownBy w' none ∧
      w'.heap[w.heap.size]? = some (.cells cur e (0, 0)) ∧ cur.size = n * τ.sz ∧ RowIs cur 0 τ (List.replicate n τ.zero) := by
  have hpos := sz_pos τ
  have hzs : z.cells.size = τ.sz := by
    have : z.cells.toList.length = τ.sz := by rw [hz2, enc_len]
    simpa using this
  obtain ⟨w', h1, ⟨h2, h3⟩, h4⟩ := run_make_full (P := P) w 0 t e i z i.size hu hi hz rfl .i64 .i64 n (by have : i.bytes * n ≤ 100 * 1000000000 := Nat.mul_le_mul hb2 hn; omega) (by simp only [maxLen]; omega) (Nat.zero_le _)
  rcases h3 with ⟨h3, _⟩ | ⟨g, cap, cur, h3, _, hg, hcap, hmax, hcs, htk⟩
  · cases h3
  · injection h3 with h3 _ h5
    injection h3 with h3
    injection h3 with h3
    subst h3; subst h5
    rw [hsz] at hcs htk
    refine ⟨w', cur, h1, h4, hg, hcs, fun q x hx j y hy => ?_⟩
    have hq : q < n := by have := (List.getElem?_eq_some_iff.1 hx).1; simpa using this
    have hxz : x = τ.zero := by
      rw [List.getElem?_replicate] at hx
      rw [if_pos hq] at hx
      injection hx with hx; exact hx.symm
    subst hxz
    have hj : j < τ.sz := by have := (List.getElem?_eq_some_iff.1 hy).1; rwa [enc_len] at this
    have hlt : q * τ.sz + j < n * τ.sz := by
      have : (q + 1) * τ.sz ≤ n * τ.sz := Nat.mul_le_mul_right _ hq
      rw [Nat.add_mul, Nat.one_mul] at this
      omega
    have e1 : (cur.toList.take (n * τ.sz))[q * τ.sz + j]? = (madeCells z.cells (n * τ.sz)).toList[q * τ.sz + j]? := by rw [htk]
    rw [List.getElem?_take, if_pos hlt] at e1
    rw [Nat.zero_add, ← Array.getElem?_toList, e1]
    have hmod : (q * τ.sz + j) % τ.sz = j := by rw [Nat.mul_comm, Nat.mul_add_mod, Nat.mod_eq_of_lt hj]
    rw [← hz2] at hy
    have hy' : z.cells[j]? = some y := by simpa using hy
    have hj' : j < z.cells.size := by rw [hzs]; exact hj
    simp only [madeCells, Array.toList_map, List.getElem?_map, Array.getElem?_toList]
    rw [Array.getElem?_range, if_pos hlt]
    simp only [Option.map_some, hzs, hmod]
    rw [getElem!_pos z.cells j hj']
    rw [Array.getElem?_eq_getElem hj'] at hy'
    exact hy'

/-- A store. -/
theorem store_run {t : TypeId} {i : TypeInfo} (hi : P.info? t = some i) {v : Value} (hs : v.cells.size = i.size) (hok : ∀ y ∈ v.cells.toList, okV y = true) {g o : Nat} {cur : Array Value} {ty : TypeId} {w : World}
    (hg : w.heap[g]? = some (.cells cur ty (0, 0))) (hfit : o + i.size ≤ cur.size) :
    (Instr.storeAt t (.pointer (some ⟨g, o, none⟩)) v).run P w = .ok () (w.setRow g (setsL cur.toList o v.cells.toList).toArray) := by
  have h := run_storeCells_at P g o ty v.cells.toList 0 cur w hg (by simpa [hs] using hfit) (fun y hy => okV_one.1 (hok y hy))
  rw [setsL_eq _ _ _ (by simpa [hs] using hfit)]
  simp only [Nat.add_zero] at h
  simp [Instr.storeAt, Instr.sureAddr, storeVar, run_size hi, hs, h]
theorem alloc_run {t : TypeId} {i : TypeInfo} {z : Value} (hi : P.info? t = some i) (hz : i.zero = some z) (w : World) : (Instr.alloc t true (.tuple #[])).run P w = .ok (.pointer (some ⟨w.heap.size, 0, none⟩)) (w.alloc (.cells z.cells t)) := by
  simp [Instr.alloc, run_zero hi hz, newVar, newRow]
theorem box_run (t : TypeId) (v : Value) (w : World) : (Instr.box t v).run P w = .ok (.pointer (some ⟨w.heap.size, 0, none⟩)) (w.alloc (.cells v.cells t)) := by
  simp [Instr.box, newVar, newRow]
end
end Go.Ev
