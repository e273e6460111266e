/- Package verify's walker: one step. -/
import Derived.Test.YteliljhlfemnpaaGreatDoorVerB
namespace Go.Proofs.YteliljhlfemnpaaGreatDoor
open Go.RowKit
set_option linter.unusedVariables false

theorem ret_ib {a a' : Int} {b b' : Bool} (h1 : a = a') (h2 : b = b') : Ending.returned (.tuple #[.int .i64 a, .bool b]) = .returned (.tuple #[.int .i64 a', .bool b']) := by rw [h1, h2]
theorem eff_ok {k a m : Int} (h : effB k a m = true) : effE k a m = 0 := (eff_good h).2.2

set_option maxHeartbeats 4000000 in
set_option maxRecDepth 100000 in
theorem behind_any {w : World} {base gw gh : Nat} {pa : Option Addr} {pn pc : Nat} {ps : List Fn} {x y : Int} {a : Option Addr} {n c : Nat} {l : List (Int × Int)} {out : List Int} {qv : Value} (W : Wk w base gw gh (.slice pa pn pc) x y (.slice a n c) n out qv)
    (hp : Fns w pa pn pc ps) (h : Inss w a n c l) (hk : packsB ps = true) (hc : codeB l = true) (p : Nat) (hpl : p < n) (hR : rangedB pn y n (insAt l p).1 (insAt l p).2 = true) (hcur : 0 ≤ out.getD p 0 ∧ out.getD p 0 ≤ 8) :
    Calls Tryz.prog 137 #[.pointer (some ⟨gw, 0, none⟩), .int .i64 p] w fun e w' => e = .returned (.tuple #[.int .i64 (goesTo ps l out p), .bool (decide (takesAt ps l p ≤ out.getD p 0) && decide (goesTo ps l out p ≤ 8))]) ∧ Below w.heap.size w w' := by
  have L := hid h.len
  have LP := hid hp.len
  have hcp := h.cap
  have hr := h.room
  have hpr := hp.room
  have hpc := hp.cap
  have hlen : 1 ≤ n ∧ n ≤ 64 := by rw [L.out]; simp [codeB] at hc; exact hc.1
  have hpk : 1 ≤ pn ∧ pn ≤ 8 := by rw [LP.out]; simp [packsB] at hk; exact hk.1
  obtain ⟨b1, o1, K, A, rfl, e1, c1, c2⟩ := h.at p hpl
  have hat : insAt l p = (K, A) := e1
  have hmay : mayB K A = true := by have := code_may hc (p := p) (by have := L.out; omega); rw [hat] at this; exact this
  have hrg : rangedB pn y n K A = true := by have := hR; rw [hat] at this; exact this
  have hA : K = 14 → 0 ≤ A ∧ A < pn := by
    intro h14
    subst h14
    simp [may14, belowB] at hmay
    have : (A < (pn : Int)) := by simpa [rangedB] using hrg
    omega
  have hM : 0 ≤ argsOf ps K A ∧ argsOf ps K A ≤ 4 := args_bd hk (by rw [← LP.out]; exact hA)
  have hEB : effB K A (argsOf ps K A) = true := by simp [effB, hmay, argsB]; exact hM
  have EF : Hid (effT K A (argsOf ps K A) = takesAt ps l p ∧ effP K A (argsOf ps K A) = putsV K ∧ effE K A (argsOf ps K A) = 0) := hid (by
    have := eff_good hEB
    exact ⟨by rw [this.1]; unfold takesAt; rw [hat], this.2.1, this.2.2⟩)
  have hT : 0 ≤ takesAt ps l p ∧ takesAt ps l p ≤ 4 := by unfold takesAt; rw [hat]; exact takes_bd _ _ hM
  have hPu := puts_bd K
  have GT : Hid (goesTo ps l out p = out.getD p 0 - takesAt ps l p + putsV K) := hid (by unfold goesTo; rw [hat])
  have w0 := W.p
  have w3 := W.f
  have w4 := W.h
  have cN := W.num.at p hpl
  generalize hcv : out.getD p 0 = cur at *
  generalize hTv : takesAt ps l p = T at *
  generalize hPv : putsV K = Pu at *
  rw [GT.out]
  have HP := hid hp
  clear W hat e1 hmay hrg hR hEB hcv hTv hPv GT h hp hk hc
  have hA1 : Below w.heap.size w (w.alloc (.cells #[.int .i64 K, .int .i64 A] 46)) := Below.alloc (Below.refl _ _) (Nat.le_refl _) _
  have HA := hid hA1
  have u0 := kept_cell hA1 w0
  by_cases h14 : K = 14
  · subst h14
    obtain ⟨hA0, hA1'⟩ := hA rfl
    obtain ⟨A', rfl⟩ : ∃ A' : Nat, A = A' := ⟨A.toNat, by omega⟩
    obtain ⟨pb1, po1, px, py, pa', pn', pc', pl', rfl, pe, pd0, pd1, pd2, pi⟩ := HP.out.at A' (by omega)
    have hMx : argsOf ps 14 (A' : Int) = px := by unfold argsOf; rw [if_pos rfl, Int.toNat_natCast, pe]
    rw [hMx] at EF hM
    have v0 := kept_cell hA1 pd0
    clear pd1 pd2 pi pe hMx hA1 pd0
    go_enter Tryz.func137, Tryz.ntmps137
    go_wp2_with fail
    go_quiet (fail)
    go_wp2_with fail
    refine (effect_any _ _ _ _).mono ?_
    rintro e w2 ⟨rfl, b2⟩
    rw [EF.out.1, EF.out.2.1, EF.out.2.2]
    have B : Hid (Below w.heap.size w w2) := hid (kt (below_drewN HA.out _) b2)
    have v4 := kept_cell B.out w4
    have vN := kept_cell B.out cN
    clear b2
    by_cases bad1 : cur < T
    · go_wp2_with fail
      go_ret2
      exact ⟨ret_ib rfl (by simp; omega), B.out⟩
    by_cases bad2 : 8 < cur - T + Pu
    · go_wp2_with fail
      go_ret2
      exact ⟨ret_ib rfl (by simp; omega), B.out⟩
    · go_wp2_with fail
      go_ret2
      exact ⟨ret_ib rfl (by simp; omega), B.out⟩
  · have n14 : (K == 14) = false := by simp [h14]
    have hm0 : argsOf ps K A = 0 := by unfold argsOf; rw [if_neg h14]
    rw [hm0] at EF hM
    clear hA1
    go_enter Tryz.func137, Tryz.ntmps137
    go_wp2_with fail
    refine (effect_any _ _ _ _).mono ?_
    rintro e w2 ⟨rfl, b2⟩
    rw [EF.out.1, EF.out.2.1, EF.out.2.2]
    have B : Hid (Below w.heap.size w w2) := hid (kt HA.out b2)
    have v4 := kept_cell B.out w4
    have vN := kept_cell B.out cN
    clear b2
    by_cases bad1 : cur < T
    · go_wp2_with fail
      go_ret2
      exact ⟨ret_ib rfl (by simp; omega), B.out⟩
    by_cases bad2 : 8 < cur - T + Pu
    · go_wp2_with fail
      go_ret2
      exact ⟨ret_ib rfl (by simp; omega), B.out⟩
    · go_wp2_with fail
      go_ret2
      exact ⟨ret_ib rfl (by simp; omega), B.out⟩

end Go.Proofs.YteliljhlfemnpaaGreatDoor
