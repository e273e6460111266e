/- For any program the law VerifyFlows returns true: in what is verified each pc that is reached has what it takes, and leaves to each one next to it what that has; no conditions. -/
import Derived.Test.YtnmhoahkmampkaaGreatDoorRows
import Derived.WalkKit
import Derived.ProofKit
import Derived.OpenShut
import Derived.ShutString
import Derived.ChangeOld
import Derived.Below
import Derived.Carry
import Derived.Lib.SmallJoins
import Derived.Handy
import Derived.WalkSmall
import Derived.SizedLaws
import Derived.Test.YtnmhoahkmampkaaGreatDoorOpen
import Derived.Test.YtnmhoahkmampkaaGreatDoorLaidOpenV
import Derived.Test.YtnmhoahkmampkaaGreatDoorCards
import Derived.Test.YtnmhoahkmampkaaGreatDoorTie
import Derived.SevenTiedAt
import Derived.LaidMore
import Derived.Stop.Joined
import Derived.Test.YtnmhoahkmampkaaGreatDoorAwake5
import Derived.Test.YtnmhoahkmampkaaGreatDoorPlainVer3
import Derived.Deep.QuietTactic
import Derived.BigQuiet
namespace Go.Proofs.YtnmhoahkmampkaaGreatDoor.verifyFlows
open Go.ChangeShapes Go.WideShapes Go.ChangeAt Go.RowKit
open Go.ChangeMaps (open_string shut_string)
set_option linter.unusedVariables false

theorem own : ownKnob Tryz.prog.godebug = none := by kernel_rfl
theorem laidOut : laidOutB Tryz.prog = true := by kernel_rfl

theorem verF_all {ps : List Fn} : ∀ (k i : Nat), verF ps k i = 0 → ∀ j, i ≤ j → j < i + k → (htsV ps j).2.2 = 0
  | 0, i, _, j, h1, h2 => by omega
  | k + 1, i, h, j, h1, h2 => by
    simp only [verF] at h
    by_cases h0 : (htsV ps i).2.2 = 0
    · rw [if_pos h0] at h
      rcases Nat.lt_or_ge i j with h3 | h3
      · exact verF_all k (i + 1) h j (by omega) (by omega)
      · have : j = i := by omega
        rw [this]; exact h0
    · rw [if_neg h0] at h; exact absurd h h0
theorem verV_all {ps : List Fn} (h : verV ps = 0) : packsB ps = true ∧ ∀ j, j < ps.length → (htsV ps j).2.2 = 0 := by
  unfold verV at h
  split at h
  · rename_i hk; exact ⟨hk, fun j hj => verF_all _ _ h j (Nat.zero_le _) (by omega)⟩
  · omega
theorem next_empty {l : List (Int × Int)} {i nf : Nat} {y K A : Int} (e : l.getD i (0, 0) = (K, A)) (hi : i < l.length) (hm : mayB K A = true) (hr : rangedB nf y l.length K A = true) (he : i + 1 = l.length → K = 12 ∨ K = 16) (h : nextL l i = []) : K = 16 := by
  rw [nextL_at rfl e] at h
  by_cases h12 : K = 12
  · subst h12
    rw [nextOf_br rfl, fallL_no (.inl rfl)] at h
    have h1 : A < l.length := by simpa [rangedB] using hr
    have h2 : 0 ≤ A := by simp [may12, belowB] at hm; omega
    rw [addN_yes (by simp [inB]; omega) rfl] at h
    simp at h
  · by_cases h16 : K = 16
    · exact h16
    · exfalso
      have hlt : i + 1 < l.length := by
        rcases Nat.lt_or_ge (i + 1) l.length with h1 | h1
        · exact h1
        · have := he (by omega); omega
      have hf : fallL l.length i K = [(i : Int) + 1] := by rw [fallL_yes h12 h16, addN_yes (by simp [inB]; omega) rfl]; rfl
      unfold nextOf at h
      rw [hf] at h
      split at h
      · unfold addN at h; split at h <;> simp at h
      · simp at h
theorem open_end {x y : Int} {l : List (Int × Int)} {i : Nat} {K A : Int} (ho : openEnd (x, y, l) = false) (hr : Reach l i) (hl : 0 < l.length) (hi : i + 1 = l.length) (e : l.getD i (0, 0) = (K, A)) : K = 12 ∨ K = 16 := by
  have h1 : ((reachL l).getD (l.length - 1) false && !decide ((l.getD (l.length - 1) (0, 0)).1 = 12 ∨ (l.getD (l.length - 1) (0, 0)).1 = 16)) = false := ho
  rw [show l.length - 1 = i by omega, e, ((reachL_marked hl).2 i (by omega)).2 hr] at h1
  have h2 : ¬ K = 12 → K = 16 := by simpa using h1
  by_cases h3 : K = 12
  · exact .inl h3
  · exact .inr (h2 h3)
set_option maxRecDepth 100000 in
set_option maxHeartbeats 20000000 in
theorem walk (a0 : Option Addr) (n0 c0 : Nat) (l0 : List Fn) (w : World) (w0 : Fns w a0 n0 c0 l0) (ld : Ld w) :
    Calls Tryz.prog 4 #[.agg #[.slice a0 n0 c0]] w fun e w' => e = .returned (.bool true) ∧ Below w.heap.size w w' := by
  have LD0 := hid ld
  clear ld
  have L0 := hid w0.len
  have hr0 := w0.room
  have hc0 := w0.cap
  have W0 := hid w0
  clear w0
  go_enter Tryz.func4, Tryz.ntmps4
  go_wp2_with fail
  refine (awake5_any _ (LD0.out.up (by go_grown))).mono ?_
  rintro e u0 ⟨rfl, bb⟩
  have B0 : Hid (Below w.heap.size w u0) := hid (kt (by go_grown) bb)
  have p0 := kept_cell bb (b := w.heap.size) (o := 0) (v := .slice a0 n0 c0) (by simp [go_sem])
  clear bb
  go_wp2_with fail
  refine (verProgram _ _ _ l0 _ (W0.out.kept B0.out) (LD0.out.up B0.out)).mono ?_
  rintro e u1 ⟨rfl, b1⟩
  have p1 := kept_cell b1 p0
  have B1 := hid (kt B0.out b1)
  clear b1 p0
  by_cases hv : verV l0 = 0
  rotate_left
  · generalize verV l0 = z at hv
    have nz : (z != 0) = true := by simp [hv]
    go_wp2_with (first | (go_at_call 10; refine (num_any _ _).mono ?_; rintro e w' ⟨rfl, hw⟩; rw [hw]; clear hw))
    go_ret
    exact ⟨rfl, B1.out⟩
  obtain ⟨hk, hall⟩ := verV_all hv
  rw [hv]
  have HK := hid hk
  have HA := hid hall
  clear hv hk hall
  go_wp2_with (first | (go_at_call 10; refine (num_any _ _).mono ?_; rintro e w' ⟨rfl, hw⟩; rw [hw]; clear hw))
  go_loopw [3] (fun s wr => ∃ k : Nat, k ≤ n0 ∧ s = .int .i64 k ∧ wr.cell? ⟨w.heap.size, 0, none⟩ = some (.slice a0 n0 c0) ∧ Below w.heap.size w wr) (fun s _ => n0 - (intOf s).toNat)
  case atStart => exact ⟨0, Nat.zero_le _, rfl, p1, B1.out⟩
  case round =>
    clear p1 B1
    obtain ⟨k, hkn, rfl, pb, hb⟩ := hrel
    by_cases hlt : k < n0
    rotate_left
    · go_wp2_with fail
      go_ret
      exact ⟨rfl, hb⟩
    obtain ⟨b0, o0, x, y, a3, n3, c3, l3, rfl, e3, d0, d1, d2, i3⟩ := (W0.out.kept hb).at k hlt
    have hfB := fnB_of HK.out (q := k) (by have := L0.out; omega) rfl
    rw [e3] at hfB
    have hbd := fnB_bd hfB
    have hcode : codeB l3 = true := by simp [fnB] at hfB; exact hfB.2
    have L3 := hid i3.len
    have hn3 : 1 ≤ n3 ∧ n3 ≤ 64 := by rw [L3.out]; omega
    have hE := HA.out k (by have := L0.out; omega)
    obtain ⟨_, f', ef, _, winv, _, hrng, hop⟩ := hts_ok hE
    have ef' : f' = k := by omega
    subst ef'
    rw [e3] at winv hrng hop
    simp only [] at winv hrng
    generalize hH : (htsV l0 (f' : Int)).1 = hs at winv
    have HH := hid hH
    have WI := hid winv
    have HRG := hid hrng
    have HOP := hid hop
    have HCD := hid hcode
    have hsl : hs.length = n3 := by rw [winv.len, L3.out]
    have hcp := i3.cap
    have hr3 := i3.room
    have z0 := World.new_ne _ _ d0
    have zw := World.new_ne _ _ pb
    have zwl := lt_of_cell pb
    have zl := lt_of_cell d0
    have hA : Below wr.heap.size wr (wr.alloc (.cells #[.int .i64 x, .int .i64 y, .slice a3 n3 c3] 42)) := Below.alloc (Below.refl _ _) (Nat.le_refl _) _
    have FB0 : Hid (FB5 (wr.alloc (.cells #[.int .i64 x, .int .i64 y, .slice a3 n3 c3] 42)) wr.heap.size x y (.slice a3 n3 c3)) := hid ⟨by simp [go_sem], by simp [go_sem], by simp [go_sem]⟩
    have I3 := hid (i3.kept hA)
    have P0 := hid (kept_cell hA pb)
    have BB := hid (kt hb hA)
    clear hH winv hrng hop hcode hfB e3 i3 ef hA
    go_wp2_with fail
    refine (verHeights _ _ _ l0 f' _ (W0.out.kept BB.out) (LD0.out.up BB.out)).mono ?_
    rintro e v1 ⟨vh, rfl, oh, b1⟩
    rw [hE]
    rw [HH.out, hsl] at oh
    obtain ⟨gh, ch, rfl, hgh, _⟩ := oh.form (by omega)
    have hch := cap_of oh
    have ch0 := oh.cellAt 0 (by omega)
    rw [ints_at hs 0 (by omega), WI.out.first] at ch0
    have OH := hid oh
    have FB1 := hid (FB0.out.kept b1)
    have I31 := hid (I3.out.kept b1)
    have P1 := hid (kept_cell b1 P0.out)
    have BB1 := hid (kt BB.out b1)
    obtain ⟨q0, q1, q2⟩ := FB1.out
    obtain ⟨FX, hFX⟩ : ∃ F, F = wr.heap.size := ⟨_, rfl⟩
    clear b1 oh d0 d1 d2 hE
    rw [← hFX] at FB1 q0 q1 q2 ⊢
    clear hFX
    go_wp2_with (first | (go_at_call 10; refine (num_any _ _).mono ?_; rintro e w' ⟨rfl, hw⟩; rw [hw]; clear hw))
    go_loopw [8] (fun s wq => ∃ i : Nat, i ≤ n3 ∧ s = .int .i64 i ∧ wq.cell? ⟨w.heap.size, 0, none⟩ = some (.slice (some ⟨b0, o0, none⟩) n0 c0) ∧ FB5 wq FX x y (.slice a3 n3 c3) ∧ wq.ownsRow 0 3 1 (.slice (some ⟨gh, 0, none⟩) n3 ch) n3 (ints hs) ∧ Below v1.heap.size v1 wq) (fun s _ => n3 - (intOf s).toNat)
    case atStart => exact ⟨0, Nat.zero_le _, rfl, P1.out, FB1.out, owns_base OH.out (Nat.zero_le _), Below.refl _ _⟩
    case round =>
      clear q0 q1 q2 ch0 pb
      obtain ⟨i, hi3, rfl, pb, fb, oo, hv1⟩ := hrel
      by_cases hli : i < n3
      rotate_left
      · go_wp2_with fail
        go_roundw
        case rel => exact ⟨f' + 1, by omega, by go_num, pb, kt BB1.out hv1⟩
        case measure => simp [intOf]; omega
      have cH := oo.cellAt i (by omega)
      rw [ints_at hs i (by omega)] at cH
      generalize hhv : hs.getD i 0 = hv at cH
      have HHV := hid hhv
      clear hhv
      by_cases hneg : hv < 0
      · have R := hid (And.intro fb oo)
        clear fb oo
        go_wp2_with fail
        go_roundw
        case rel => exact ⟨i + 1, by omega, by go_num, pb, R.out.1, R.out.2, hv1⟩
        case measure => simp [intOf]; omega
      have hil : i < l3.length := by have := L3.out; omega
      obtain ⟨b2, o2, K, A, rfl, e2, c1, c2⟩ := (I31.out.kept hv1).at i hli
      have hat : insAt l3 i = (K, A) := e2
      have hge : 0 ≤ hs.getD i 0 := by rw [HHV.out]; omega
      have hrch := WI.out.only i hil hge
      have hmay : mayB K A = true := by have := code_may HCD.out hil; rw [hat] at this; exact this
      have hrgd : rangedB l0.length y l3.length K A = true := by have := HRG.out i hrch; rw [hat] at this; exact this
      have hgone : Gone l0 l3 hs i := by
        rcases WI.out.gone i hil hge with h1 | h1
        · cases h1
        · exact h1
      have hAr : K = 14 → 0 ≤ A ∧ A < n0 := by
        intro h14
        subst h14
        simp [may14, belowB] at hmay
        have : (A < (l0.length : Int)) := by simpa [rangedB] using hrgd
        have := L0.out
        omega
      have hM : 0 ≤ argsOf l0 K A ∧ argsOf l0 K A ≤ 4 := args_bd HK.out (by rw [← L0.out]; exact hAr)
      have EF : Hid (effT K A (argsOf l0 K A) = takesAt l0 l3 i ∧ effP K A (argsOf l0 K A) = putsV K ∧ effE K A (argsOf l0 K A) = 0) := hid (by
        have := eff_good (k := K) (a := A) (m := argsOf l0 K A) (by simp [effB, hmay, argsB]; exact hM)
        exact ⟨by rw [this.1]; unfold takesAt; rw [hat], this.2.1, this.2.2⟩)
      have hT : 0 ≤ takesAt l0 l3 i ∧ takesAt l0 l3 i ≤ 4 := by unfold takesAt; rw [hat]; exact takes_bd _ _ hM
      have hPu := puts_bd K
      have GT : goesTo l0 l3 hs i = hv - takesAt l0 l3 i + putsV K := by unfold goesTo; rw [hat, HHV.out]
      obtain ⟨gn1, gn2, gn3⟩ := hgone
      rw [HHV.out] at gn1
      rw [GT] at gn2 gn3
      have GN := hid gn3
      have hv8 : hv ≤ 200 := by omega
      have NEM : Hid (nextL l3 i = [] → K = 16) := hid (fun h => next_empty e2 hil hmay hrgd (fun h1 => open_end HOP.out hrch (by omega) h1 e2) h)
      have NXE : Hid (nxL l3 (i : Int) = nextL l3 i ∧ nxE l3 (i : Int) = 0) := hid (by
        have h1 : nxOk l3 (i : Int) = true := by rw [nxOk, HCD.out, show inB l3.length (i : Int) = true by simp [inB, hil]]; rfl
        exact ⟨by unfold nxL; rw [if_pos h1, Int.toNat_natCast], by simp [nxE, h1]⟩)
      generalize hTv : takesAt l0 l3 i = T at *
      generalize hPv : putsV K = Pu at *
      obtain ⟨q0, q1, q2⟩ := fb
      have FBh : Hid (FB5 wr FX x y (.slice (some ⟨b2, o2, none⟩) n3 c3)) := hid ⟨q0, q1, q2⟩
      have OO := hid oo
      have PBh := hid pb
      clear oo hTv hPv GT gn3 e2 hat hrgd hmay hge hrch
      by_cases h14 : K = 14
      · subst h14
        obtain ⟨hA0, hA1⟩ := hAr rfl
        obtain ⟨A', rfl⟩ : ∃ A' : Nat, A = A' := ⟨A.toNat, by omega⟩
        obtain ⟨pb1, po1, px, py, pa', pn', pc', pl', ea, pe, pd0, pd1, pd2, pi⟩ := (W0.out.kept (kt BB1.out hv1)).at A' (by omega)
        cases ea
        have hMx : argsOf l0 14 (A' : Int) = px := by unfold argsOf; rw [if_pos rfl, Int.toNat_natCast, pe]
        rw [hMx] at EF
        clear pd1 pd2 pi pe hMx hM
        go_wp2_with fail
        go_quiet (fail)
        go_wp2_with fail
        go_quiet (fail)
        go_wp2_with fail
        refine (refEffect_any _ _ _ _).mono ?_
        rintro e w2 ⟨rfl, b2⟩
        rw [EF.out.1, EF.out.2.1, EF.out.2.2]
        have BBq : Hid (Below wr.heap.size wr w2) := hid (kt (below_drewN (Below.refl _ _) _) b2)
        obtain ⟨r0, r1, r2⟩ := FBh.out.kept BBq.out
        clear b2 q0 q1 q2 pb
        go_wp2_with fail
        refine (refNext_any x y i _ n3 c3 l3 w2 ((I31.out.kept hv1).kept BBq.out)).mono ?_
        rintro e w5 ⟨vn, rfl, on, b5⟩
        rw [NXE.out.2]
        rw [NXE.out.1] at on
        have XL := hid (nextL_len l3 i)
        obtain ⟨an, nn, cn, rfl, iN⟩ := ints_of_owns on (by have := XL.out; omega)
        have hnn : Hid (nn = (nextL l3 i).length) := hid iN.len
        have hcn := iN.cap
        have hrn := iN.room
        have B5 : Hid (Below wr.heap.size wr w5) := hid (kt BBq.out b5)
        have cH5 := kept_cell B5.out cH
        have cK5 := kept_cell B5.out c1
        have S5 := hid (And.intro (kept_cell B5.out PBh.out) (And.intro (FBh.out.kept B5.out) (And.intro (owns_kept OO.out B5.out) (kt hv1 B5.out))))
        clear cH c1 c2
        clear r0 r1 r2
        obtain ⟨r0, r1, r2⟩ := S5.out.2.1
        have hz : ¬ nn = 0 := fun h0 => by have := NEM.out (List.length_eq_zero_iff.1 (by have := hnn.out; omega)); omega
        have nz : ((nn : Int) == 0) = false := by simp [hz]
        have oN0 := hid on
        clear on iN b5
        go_wp2_with fail
        go_loopw [15] (fun s wz => ∃ j : Nat, j ≤ nn ∧ s = .int .i64 j ∧ wz.cell? ⟨w.heap.size, 0, none⟩ = some (.slice (some ⟨b0, o0, none⟩) n0 c0) ∧ FB5 wz FX x y (.slice (some ⟨b2, o2, none⟩) n3 c3) ∧ wz.ownsRow 0 3 1 (.slice (some ⟨gh, 0, none⟩) n3 ch) n3 (ints hs) ∧ wz.ownsRow 0 3 1 (.slice an nn cn) (nextL l3 i).length (ints (nextL l3 i)) ∧ Below v1.heap.size v1 wz) (fun s _ => nn - (intOf s).toNat)
        case atStart => exact ⟨0, Nat.zero_le _, rfl, S5.out.1, S5.out.2.1, S5.out.2.2.1, owns_base oN0.out (Nat.zero_le _), S5.out.2.2.2⟩
        case round =>
          clear cH5 cK5 r0 r1 r2
          obtain ⟨j, hj, rfl, pz, fz, oz, onz, hvz⟩ := hrel
          by_cases hlj : j < nn
          rotate_left
          · go_wp2_with fail
            go_roundw
            case rel => exact ⟨i + 1, by omega, by go_num, pz, fz, oz, hvz⟩
            case measure => simp [intOf]; omega
          obtain ⟨gn, cn', e9, _, _⟩ := onz.form (by have := hnn.out; omega)
          cases e9
          have cX5 := onz.cellAt j (by have := hnn.out; omega)
          rw [ints_at (nextL l3 i) j (by have := hnn.out; omega)] at cX5
          have hmem : (nextL l3 i).getD j 0 ∈ nextL l3 i := by have := hnn.out; simp [List.getD_eq_getElem?_getD, show j < (nextL l3 i).length by omega]
          have hrg5 := nextL_in _ hmem
          obtain ⟨q5, hq5⟩ : ∃ q5 : Nat, (nextL l3 i).getD j 0 = q5 := ⟨((nextL l3 i).getD j 0).toNat, by omega⟩
          rw [hq5] at cX5 hrg5 hmem
          have hqn5 : q5 < n3 := by have := L3.out; omega
          have cH := oz.cellAt i (by omega)
          rw [ints_at hs i (by omega), HHV.out] at cH
          have cQ := oz.cellAt q5 (by omega)
          rw [ints_at hs q5 (by omega), GN.out q5 hmem] at cQ
          have R := hid (And.intro pz (And.intro fz (And.intro oz onz)))
          clear pz fz oz onz hmem hrg5 hq5
          go_wp2_with fail
          go_quiet (fail)
          go_wp2_with fail
          go_roundw
          case rel => exact ⟨j + 1, by omega, by go_num, R.out.1, R.out.2.1.kept (below_drewN (Below.refl _ _) _), owns_kept R.out.2.2.1 (below_drewN (Below.refl _ _) _), owns_kept R.out.2.2.2 (below_drewN (Below.refl _ _) _), below_drewN hvz _⟩
          case measure => simp [intOf]; omega
      · have n14 : (K == 14) = false := by simp [h14]
        have hMx : argsOf l0 K A = 0 := by simp [argsOf, h14]
        rw [hMx] at EF
        clear hMx hM hAr
        go_wp2_with fail
        refine (refEffect_any _ _ _ _).mono ?_
        rintro e w2 ⟨rfl, b2⟩
        rw [EF.out.1, EF.out.2.1, EF.out.2.2]
        have BBq : Hid (Below wr.heap.size wr w2) := hid (b2)
        obtain ⟨r0, r1, r2⟩ := FBh.out.kept BBq.out
        clear b2 q0 q1 q2 pb
        go_wp2_with fail
        refine (refNext_any x y i _ n3 c3 l3 w2 ((I31.out.kept hv1).kept BBq.out)).mono ?_
        rintro e w5 ⟨vn, rfl, on, b5⟩
        rw [NXE.out.2]
        rw [NXE.out.1] at on
        have XL := hid (nextL_len l3 i)
        obtain ⟨an, nn, cn, rfl, iN⟩ := ints_of_owns on (by have := XL.out; omega)
        have hnn : Hid (nn = (nextL l3 i).length) := hid iN.len
        have hcn := iN.cap
        have hrn := iN.room
        have B5 : Hid (Below wr.heap.size wr w5) := hid (kt BBq.out b5)
        have cH5 := kept_cell B5.out cH
        have cK5 := kept_cell B5.out c1
        have S5 := hid (And.intro (kept_cell B5.out PBh.out) (And.intro (FBh.out.kept B5.out) (And.intro (owns_kept OO.out B5.out) (kt hv1 B5.out))))
        clear cH c1 c2
        clear r0 r1 r2
        obtain ⟨r0, r1, r2⟩ := S5.out.2.1
        by_cases hz : nn = 0
        · have hK : K = 16 := NEM.out (List.length_eq_zero_iff.1 (by have := hnn.out; omega))
          subst hK
          have oN0 := hid on
          clear on iN b5
          go_wp2_with fail
          go_loopw [15] (fun s wz => ∃ j : Nat, j ≤ nn ∧ s = .int .i64 j ∧ wz.cell? ⟨w.heap.size, 0, none⟩ = some (.slice (some ⟨b0, o0, none⟩) n0 c0) ∧ FB5 wz FX x y (.slice (some ⟨b2, o2, none⟩) n3 c3) ∧ wz.ownsRow 0 3 1 (.slice (some ⟨gh, 0, none⟩) n3 ch) n3 (ints hs) ∧ wz.ownsRow 0 3 1 (.slice an nn cn) (nextL l3 i).length (ints (nextL l3 i)) ∧ Below v1.heap.size v1 wz) (fun s _ => nn - (intOf s).toNat)
          case atStart => exact ⟨0, Nat.zero_le _, rfl, S5.out.1, S5.out.2.1, S5.out.2.2.1, owns_base oN0.out (Nat.zero_le _), S5.out.2.2.2⟩
          case round =>
            clear cH5 cK5 r0 r1 r2
            obtain ⟨j, hj, rfl, pz, fz, oz, onz, hvz⟩ := hrel
            by_cases hlj : j < nn
            rotate_left
            · go_wp2_with fail
              go_roundw
              case rel => exact ⟨i + 1, by omega, by go_num, pz, fz, oz, hvz⟩
              case measure => simp [intOf]; omega
            omega
        · have nz : ((nn : Int) == 0) = false := by simp [hz]
          have oN0 := hid on
          clear on iN b5
          go_wp2_with fail
          go_loopw [15] (fun s wz => ∃ j : Nat, j ≤ nn ∧ s = .int .i64 j ∧ wz.cell? ⟨w.heap.size, 0, none⟩ = some (.slice (some ⟨b0, o0, none⟩) n0 c0) ∧ FB5 wz FX x y (.slice (some ⟨b2, o2, none⟩) n3 c3) ∧ wz.ownsRow 0 3 1 (.slice (some ⟨gh, 0, none⟩) n3 ch) n3 (ints hs) ∧ wz.ownsRow 0 3 1 (.slice an nn cn) (nextL l3 i).length (ints (nextL l3 i)) ∧ Below v1.heap.size v1 wz) (fun s _ => nn - (intOf s).toNat)
          case atStart => exact ⟨0, Nat.zero_le _, rfl, S5.out.1, S5.out.2.1, S5.out.2.2.1, owns_base oN0.out (Nat.zero_le _), S5.out.2.2.2⟩
          case round =>
            clear cH5 cK5 r0 r1 r2
            obtain ⟨j, hj, rfl, pz, fz, oz, onz, hvz⟩ := hrel
            by_cases hlj : j < nn
            rotate_left
            · go_wp2_with fail
              go_roundw
              case rel => exact ⟨i + 1, by omega, by go_num, pz, fz, oz, hvz⟩
              case measure => simp [intOf]; omega
            obtain ⟨gn, cn', e9, _, _⟩ := onz.form (by have := hnn.out; omega)
            cases e9
            have cX5 := onz.cellAt j (by have := hnn.out; omega)
            rw [ints_at (nextL l3 i) j (by have := hnn.out; omega)] at cX5
            have hmem : (nextL l3 i).getD j 0 ∈ nextL l3 i := by have := hnn.out; simp [List.getD_eq_getElem?_getD, show j < (nextL l3 i).length by omega]
            have hrg5 := nextL_in _ hmem
            obtain ⟨q5, hq5⟩ : ∃ q5 : Nat, (nextL l3 i).getD j 0 = q5 := ⟨((nextL l3 i).getD j 0).toNat, by omega⟩
            rw [hq5] at cX5 hrg5 hmem
            have hqn5 : q5 < n3 := by have := L3.out; omega
            have cH := oz.cellAt i (by omega)
            rw [ints_at hs i (by omega), HHV.out] at cH
            have cQ := oz.cellAt q5 (by omega)
            rw [ints_at hs q5 (by omega), GN.out q5 hmem] at cQ
            have R := hid (And.intro pz (And.intro fz (And.intro oz onz)))
            clear pz fz oz onz hmem hrg5 hq5
            go_wp2_with fail
            go_quiet (fail)
            go_wp2_with fail
            go_roundw
            case rel => exact ⟨j + 1, by omega, by go_num, R.out.1, R.out.2.1.kept (below_drewN (Below.refl _ _) _), owns_kept R.out.2.2.1 (below_drewN (Below.refl _ _) _), owns_kept R.out.2.2.2 (below_drewN (Below.refl _ _) _), below_drewN hvz _⟩
            case measure => simp [intOf]; omega

set_option maxRecDepth 100000 in
theorem lifted (os : Os) (started : os.Started) (H : Type) (enc : TypeId × Value → H) :
    ReturnsInHanded {} Tryz.checked os 4 .any (fun w args => (Rows.verifyFlowsSpec.pre enc Tryz.prog Tryz.f4 [] false w args ∧ laidMetH Tryz.prog [("math/bits.deBruijn32tab", Rows.laid_math_bits_deBruijn32tab), ("math/bits.deBruijn64tab", Rows.laid_math_bits_deBruijn64tab), ("internal/strconv.uint64pow10", Rows.laid_internal_strconv_uint64pow10), ("errors.errorType", Rows.laid_errors_errorType), ("swage/pack.errForm", Rows.laid_swage_pack_errForm), ("swage/pack.errEnd", Rows.laid_swage_pack_errEnd)] w) ∧ sizedMet enc Tryz.prog Tryz.f4 (OpenSpec.ofChange Rows.verifyFlowsSpec) false w args) (Rows.verifyFlowsSpec.post enc Tryz.prog Tryz.f4 false true false false) := by
  refine returnsInHanded_of_change_and (C := Tryz.checked) (X := fun w _ => laidMetH Tryz.prog [("math/bits.deBruijn32tab", Rows.laid_math_bits_deBruijn32tab), ("math/bits.deBruijn64tab", Rows.laid_math_bits_deBruijn64tab), ("internal/strconv.uint64pow10", Rows.laid_internal_strconv_uint64pow10), ("errors.errorType", Rows.laid_errors_errorType), ("swage/pack.errForm", Rows.laid_swage_pack_errForm), ("swage/pack.errEnd", Rows.laid_swage_pack_errEnd)] w) (fun _ _ _ hh h => h.of_heap hh) own started (by kernel_rfl) Tryz.func4
    (ChangeSpec.witness_shaped (enc := enc) (C := Tryz.checked) (os := os) (X := fun w _ => laidMetH Tryz.prog [("math/bits.deBruijn32tab", Rows.laid_math_bits_deBruijn32tab), ("math/bits.deBruijn64tab", Rows.laid_math_bits_deBruijn64tab), ("internal/strconv.uint64pow10", Rows.laid_internal_strconv_uint64pow10), ("errors.errorType", Rows.laid_errors_errorType), ("swage/pack.errForm", Rows.laid_swage_pack_errForm), ("swage/pack.errEnd", Rows.laid_swage_pack_errEnd)] w) false (World.doorLaid Tryz.prog 400 os) #[.agg #[.slice none 0 0]] 8 rfl (World.shaped_of_RefB (by kernel_rfl) (by kernel_rfl)) (by kernel_rfl) (by kernel_rfl) (by kernel_rfl) (door_met os _)) ?_
  intro W base args ds gs before hval0 hW hcnd hsz0 hL _
  have hval : ∀ (j : Nat) t v, Tryz.f4.params[j]? = some t → args[j]? = some v → Value.okWide Tryz.prog W .any base t v := hval0
  have hW' := hW
  obtain ⟨p, q, hA0, hV, rfl, hfz, hnd⟩ := hW
  have hA : DataW.TrodAll enc Tryz.prog W 0 (fun _ => true) true Tryz.f4.params.toList args.toList ds p := hA0
  have hsz : (DataW.weightsEach Tryz.prog (Tryz.f4.params.toList ++ Rows.verifyFlowsSpec.plain.varTypes Tryz.prog) (ds ++ gs)).all (· ≤ reachBytes) = true := hsz0
  rw [Tryz.params4] at hA hval hsz
  obtain ⟨v0, vs0, d0, ds0, p0, q0, hargs, rfl, rfl, h0, r0⟩ := trodAll_cons hA
  obtain ⟨rfl, rfl, rfl⟩ := trodAll_nil r0
  obtain rfl : args = #[v0] := by cases args; simp_all
  obtain ⟨rfl, rfl⟩ := trodVars_none hV
  have k0 := h0
  have lt0 : ∀ x ∈ p0, x.block < W.heap.size := by obtain ⟨m, hm⟩ := k0; exact DataW.trod_lt m _ _ _ hm
  obtain ⟨a0, n0, c0, l0, rfl, w0⟩ := open_program (hval 0 24 v0 rfl rfl) h0 (fun k hk => by simpa using List.all_eq_true.1 hsz k (DataW.weights_mem_each (j := 0) rfl rfl k hk))
  clear hA0 hval0
  refine (walk a0 n0 c0 l0 W w0 (ld_of hL)).mono fun e W' ⟨he, bel⟩ => ?_
  subst he
  exact ⟨_, rfl, _, _, _, [], _, [], hW', trodAll_mk1 (shut_bool Tryz.underlying4 _), (trodAll_cons_mk (Below.trod laidOut (by kernel_rfl) (of_decide_eq_true (by kernel_rfl)) k0 bel lt0) trodAll_mk0), rfl, bel.frame _, fun h => by cases h⟩

theorem over : Rows.verifyFlowsRow.holds Tryz.pinned (OpenSpec.ofChange Rows.verifyFlowsSpec) :=
  OpenClaim.holds_of_wide 4 Tryz.f4 rfl rfl rfl rfl rfl rfl rfl ⟨rfl, rfl, rfl, rfl, rfl⟩ rfl rfl rfl rfl rfl (by kernel_rfl) Tryz.func4 (by kernel_rfl)
    (of_decide_eq_true (by kernel_rfl)) (by unfold Func.isWrapper; first | (rw [if_pos (by decide +kernel)]; kernel_rfl) | (rw [if_neg (by decide +kernel)]; exact ⟨rfl, rfl⟩))
    (fun os started H enc _ => lifted os started H enc)
end Go.Proofs.YtnmhoahkmampkaaGreatDoor.verifyFlows
namespace Go.Proofs.YtnmhoahkmampkaaGreatDoor
open Go
theorem verifyFlows_holds : Rows.VerifyFlowsCardSaid :=
  Claim7.holds_tied_plain_at .later [] [.data, .data, .data, .handle, .sentinel, .sentinel] true (true, "10089f75fa0ab85cfc1497fa887a67bd97855363fd0769559cb79d63b501dd70") true
    verifyFlows.over (fun _ h => by cases h) (by kernel_rfl) (fun _ h => by cases h) verifyFlows_row_tie rfl ⟨rfl, rfl⟩ (by kernel_rfl) rfl
    (fun f fn hf hfn => by
      obtain rfl : f = 4 := Option.some.inj ((show Tryz.prog.funcNamed "swage/swagelaw5.VerifyFlows" = some 4 by kernel_rfl).symm.trans hf) |>.symm
      obtain rfl : fn = Tryz.f4 := (Option.some.inj (Tryz.func4.symm.trans hfn)).symm
      exact ⟨by kernel_rfl, fun j t ht => by
        rw [Tryz.params4] at ht
        have hm : t ∈ [24] := by simpa using Array.mem_of_getElem? ht
        have hall : ([24].all fun u => !Tryz.prog.wantsStandIn u) = true := by kernel_rfl
        exact (show Tryz.prog.wantsStandIn t = false by simpa using List.all_eq_true.1 hall t hm)⟩)
    (by kernel_rfl)
#print axioms verifyFlows_holds
end Go.Proofs.YtnmhoahkmampkaaGreatDoor
