/- What the functions that the law reaches do, written as plain Lean. No statement is proved here. -/
import Derived.Test.YtaajnkggomlppaeFnUseGateAdmitP0
namespace Go.Ev
set_option linter.unusedVariables false
open Go
theorem law_FnUseGateAdmit (code : List Int) (hb : ∀ x ∈ code, 0 ≤ x ∧ x ≤ 255) : F_laws_FnUseGateAdmit code (fun r => r = true) := by
  refine br_dec.2 ⟨fun _ => rfl, fun hlen => ⟨hb, fun w r n m s a key l1 l2 l3 a1 a2 => ?_⟩⟩
  by_cases v : VGate w r ⟨n, m, s, a⟩ ∧ 0 ≤ key ∧ key ≤ 31
  · have hr := v.1.1.2.1.1
    have vq := gateM_valid v.1 v.2
    have hl := gate_len vq
    have hnr := v.1.1.1.2.2.2.1
    have hmr := v.1.1.2.1.2.2.2.1
    have hnd := v.1.1.2.1.2.2.2.2
    have ho : ∀ y ∈ m, y ∉ (gateM w r ⟨n, m, s, a⟩ key).1.m → (gateM w r ⟨n, m, s, a⟩ key).2 = false ∧ ∃ m' x u, m = m' ++ [y] ∧ x ∈ n ∧ (gateM w r ⟨n, m, s, a⟩ key).1.m = x :: u ∧ countM (gateM w r ⟨n, m, s, a⟩ key).1.s y < countM (gateM w r ⟨n, m, s, a⟩ key).1.s x :=
      fun y hy hy2 => passM_out v.1.1 hy hy2
    refine yes v (yes v ?_)
    generalize gateM w r ⟨n, m, s, a⟩ key = q at *
    simp only at hnr hmr hnd
    refine equalGate_same (by omega) (by omega) (by omega) (br_nt (br_same (br_ne (by omega) ?_)))
    have go : ∀ (d i : Nat), i + d = m.length → L0_laws_FnUseGateAdmit a m n r s w q.1.a q.1.m q.1.n r q.1.s w q.2 (fun r => r = true) (d + 1) (i : Int) := by
      intro d
      induction d with
      | zero =>
        intro i hi
        rw [L0_laws_FnUseGateAdmit, U0_laws_FnUseGateAdmit]
        exact br_nd (by omega) rfl
      | succ d ih =>
        intro i hi
        have hy : m.getD i 0 ∈ m := mem_getD (by omega)
        rw [L0_laws_FnUseGateAdmit, U0_laws_FnUseGateAdmit]
        simp only [Int.toNat_natCast]
        refine br_yd (by omega) ⟨⟨by omega, by omega⟩, by omega, br_not.2 (br_dec.2 ⟨fun _ => ⟨inR (by omega) (by omega), ih (i + 1) (by omega)⟩, fun h => ?_⟩)⟩
        obtain ⟨f1, m', x, u, f2, f3, f4, f5⟩ := ho _ hy h
        have hil : i = m.length - 1 := by
          have e1 : m[i]? = some (m.getD i 0) := some_of (by omega)
          have e2 : m[m.length - 1]? = some (m.getD i 0) := by
            have : m.length - 1 = m'.length := by rw [f2]; simp
            rw [this]
            conv => lhs; rw [f2]
            simp
          exact nodup_at hnd e1 e2
        have e0 : q.1.m.getD 0 0 = x := by rw [f4]; rfl
        have el : 0 < q.1.m.length := by rw [f4]; simp
        have next := ih (i + 1) (by omega)
        rw [f1] at next ⊢
        rw [e0]
        refine br_ne (by omega) ⟨inR (by omega) (by omega), br_bne.2 ⟨fun c => absurd (by omega) c, fun _ => ⟨⟨by omega, by omega⟩, ⟨by omega, by omega⟩, all_t ⟨vq.2.1, hnr x f3, hmr _ hy, f5⟩ (br_nt ⟨inR (by omega) (by omega), next⟩)⟩⟩⟩
    exact ⟨_, go m.length 0 (by omega)⟩
  · exact nay v (nay v (equalGate_same (by simp) (by simp) (by simp) (br_nt (br_same (br_ye rfl (equalGate_same (by simp) (by simp) (by simp) rfl))))))
end Go.Ev
