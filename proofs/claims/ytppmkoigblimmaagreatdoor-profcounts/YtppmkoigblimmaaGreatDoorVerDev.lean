/- What package verify returns: Heights and Program, by plain reckoning. -/
import Derived.Test.YtppmkoigblimmaaGreatDoorJ5v
import Derived.Test.YtppmkoigblimmaaGreatDoorRefHeights
import Derived.Test.YtppmkoigblimmaaGreatDoorJ5p
import Derived.Deep.RegionHeld3
namespace Go.Proofs.YtppmkoigblimmaaGreatDoor
open Go.RowKit
set_option linter.unusedVariables false

theorem htsF_pc {ps : List Fn} {f : Fn} (h : (htsF ps f).2.2 = 0) : (htsF ps f).2.1 = 0 := by
  unfold htsF at h ⊢
  split
  · rename_i i e; rw [e] at h; simp at h
  · rename_i e
    rw [e] at h
    simp only [] at h
    split
    · rename_i ho; rw [if_pos ho] at h; simp at h
    · rename_i ho; rw [if_neg ho] at h; exact walkF_pc _ _ _ h
theorem htsV_pc {ps : List Fn} {fn : Int} (h : (htsV ps fn).2.2 = 0) : (htsV ps fn).2.1 = 0 := by
  unfold htsV at h ⊢
  split
  · rename_i hc; rw [if_pos hc] at h; exact htsF_pc h
  · rfl
/-- The end of the code, told by the first place of which it is so. -/
theorem endAt {x y : Int} {l : List (Int × Int)} {m : Nat} (hl : l.length = m + 1) : firstAt (fun k => (reachL l).getD k false && endB l (m + 1) k) (m + 1) 0 = if openEnd (x, y, l) = true then some m else none := by
  rw [firstAt_last m 0 (fun j _ hj => by
    have : decide (j + 1 = m + 1) = false := by simp; omega
    simp only [endB, this, Bool.false_and, Bool.and_false])]
  have e : ((reachL l).getD (0 + m) false && endB l (m + 1) (0 + m)) = openEnd (x, y, l) := by
    unfold openEnd endB
    simp only [hl, Nat.zero_add, Nat.add_sub_cancel, decide_true, Bool.true_and]
  rw [e, Nat.zero_add]

theorem errV_some {i : Nat} {o : Option Nat} {k : Int} (h : o = some i) : errV o k = .iface 101 (.agg #[.int .i64 (i : Int), .iface 30 (.int .i64 k)]) := by rw [h]; rfl
theorem errV_none {o : Option Nat} {k : Int} (h : o = none) : errV o k = .nilIface := by rw [h]; rfl

set_option maxHeartbeats 4000000 in
theorem verCheck_any (pa : Option Addr) (pn pc : Nat) (ps : List Fn) (x y : Int) (a : Option Addr) (n c : Nat) (l : List (Int × Int)) (w : World) (hp : Fns w pa pn pc ps) (h : Inss w a n c l) (hk : packsB ps = true) (hfB : fnB (x, y, l) = true) :
    Calls Tryz.prog 64 #[.agg #[.slice pa pn pc], .agg #[.int .i64 x, .int .i64 y, .slice a n c]] w fun e w' => ∃ v, e = .returned (.tuple #[v, errN (htsF ps (x, y, l)).2.1 (htsF ps (x, y, l)).2.2]) ∧ w'.ownsRow w.heap.size 3 1 v (htsF ps (x, y, l)).1.length (ints (htsF ps (x, y, l)).1) ∧ Below w.heap.size w w' := by
  have hc : codeB l = true := by simp [fnB] at hfB; exact hfB.2
  have L := hid h.len
  have LP := hid hp.len
  have hpr := hp.room
  have hlen : 1 ≤ n ∧ n ≤ 64 := by rw [L.out]; simp [codeB] at hc; exact hc.1
  obtain ⟨m, rfl⟩ : ∃ m, n = m + 1 := ⟨n - 1, by omega⟩
  have HI := hid h
  have HP := hid hp
  have HK := hid hk
  have HC := hid hc
  have CE : cE l = 0 := by unfold cE; rw [if_pos hc]
  have HM := hid (reachL_marked (l := l) (by have := L.out; omega))
  have U : Hid (firstAt (unranged ps (x, y, l)) l.length 0 = firstAt (fun k => (reachL l).getD k false && !rangedB pn y (m + 1) (insAt l k).1 (insAt l k).2) (m + 1) 0) := hid (by
    rw [← L.out]; refine firstAt_congr _ _ (fun j _ _ => ?_)
    show ((reachL l).getD j false && !rangedB ps.length y l.length (insAt l j).1 (insAt l j).2) = _
    rw [← LP.out, ← L.out])
  have E := hid (endAt (x := x) (y := y) L.out.symm)
  generalize hV : htsF ps (x, y, l) = V
  have HV := hid hV
  obtain ⟨V1, V2, V3⟩ := V
  clear h hp hk hc hV hfB
  have hA : Below w.heap.size w ((w.alloc (.cells #[.slice pa pn pc] 24)).alloc (.cells #[.int .i64 x, .int .i64 y, .slice a (m + 1) c] 48)) := Below.alloc (Below.alloc (Below.refl _ _) (Nat.le_refl _) _) (by simp) _
  have HA := hid hA
  have RE := hid (reached_any x y a (m + 1) c l _ (HI.out.kept hA))
  rw [CE] at RE
  clear hA CE
  have P0 : Hid (((w.alloc (.cells #[.slice pa pn pc] 24)).alloc (.cells #[.int .i64 x, .int .i64 y, .slice a (m + 1) c] 48)).cell? ⟨w.heap.size, 0, none⟩ = some (.slice pa pn pc)) := hid (by simp [go_sem])
  have F0 : Hid (FB5 ((w.alloc (.cells #[.slice pa pn pc] 24)).alloc (.cells #[.int .i64 x, .int .i64 y, .slice a (m + 1) c] 48)) (w.heap.size + 1) x y (.slice a (m + 1) c)) := hid ⟨by simp [go_sem], by simp [go_sem], by simp [go_sem]⟩
  go_enter Tryz.func64, Tryz.ntmps64
  go_wp2_with fail
  refine RE.out.mono ?_
  rintro e w1 ⟨vr, bs, rfl, rd, ow, b1⟩
  have hM : Marked l bs := by
    rcases rd with ⟨_, h⟩ | ⟨h, _⟩
    · exact h
    · rw [HC.out] at h; cases h
  obtain rfl : reachL l = bs := HM.out.eq hM
  obtain ⟨ra, rn, rc, rfl, hB⟩ := bools_of_owns ow (by rw [hM.1, ← L.out]; omega)
  obtain rfl : rn = m + 1 := by rw [hB.len, hM.1, L.out]
  have B1 := hid (kt HA.out b1)
  have p1 := kept_cell b1 P0.out
  obtain ⟨f0, f1, f2⟩ := F0.out.kept b1
  have HB := hid hB
  clear b1 P0 F0 RE rd ow hM hB
  have CR := hid (checkRange_any pa pn pc x y a (m + 1) c l ra rc (reachL l) w1 (HI.out.kept B1.out) HB.out hpr)
  cases hfa : firstAt (unranged ps (x, y, l)) l.length 0 with
  | some i =>
    rw [errV_some (U.out.symm.trans hfa)] at CR
    have e9 := (htsF_range hfa).symm.trans HV.out
    simp only [Prod.mk.injEq] at e9
    obtain ⟨rfl, rfl, rfl⟩ := e9
    clear hfa U
    go_wp2_with fail
    refine CR.out.mono ?_
    rintro e w2 ⟨rfl, b2⟩
    go_wp2_with fail
    go_ret2
    exact ⟨_, rfl, World.ownsRow_nil _ _ _ _, kt B1.out b2⟩
  | none =>
    rw [errV_none (U.out.symm.trans hfa)] at CR
    have HN := hid hfa
    have HR : Hid (∀ i, Reach l i → rangedB pn y (m + 1) (insAt l i).1 (insAt l i).2 = true) := hid (by
      intro i hi
      have hil := hi.lt (by have := L.out; omega)
      have h1 := firstAt_none _ _ hfa i (Nat.zero_le _) (by omega)
      have h2 : (reachL l).getD i false = true := (HM.out.2 i hil).2 hi
      have h3 : ((reachL l).getD i false && !rangedB ps.length y l.length (insAt l i).1 (insAt l i).2) = false := h1
      rw [h2, ← LP.out, ← L.out] at h3
      simpa using h3)
    clear hfa U
    go_wp2_with fail
    refine CR.out.mono ?_
    rintro e w2 ⟨rfl, b2⟩
    have B2 := hid (kt B1.out b2)
    have p2 := kept_cell b2 p1
    have k0 := kept_cell b2 f0
    have k1 := kept_cell b2 f1
    have k2 := kept_cell b2 f2
    have CEn := hid (checkEnd_any x y a (m + 1) c l ra rc (reachL l) w2 (HI.out.kept B2.out) (HB.out.kept b2))
    clear b2 p1 f0 f1 f2 CR
    cases ho : openEnd (x, y, l)
    · have e8 := E.out
      rw [ho] at e8
      rw [errV_none (by rw [e8]; rfl)] at CEn
      have e9 := (htsF_walk HN.out ho).symm.trans HV.out
      have WV : Hid (walkV ps l = (V1, V2, V3)) := hid e9
      clear e8 e9 ho E
      go_wp2_with fail
      refine CEn.out.mono ?_
      rintro e w3 ⟨rfl, b3⟩
      have B3 := hid (kt B2.out b3)
      have p3 := kept_cell b3 p2
      have q0 := kept_cell b3 k0
      have q1 := kept_cell b3 k1
      have q2 := kept_cell b3 k2
      clear b3 p2 k0 k1 k2 CEn
      go_wp2_with fail
      refine (walk_any pa pn pc ps x y a (m + 1) c l w3 (HP.out.kept B3.out) (HI.out.kept B3.out) HK.out HC.out HR.out).mono ?_
      rintro e w4 ⟨v4, rfl, o4, b4⟩
      rw [WV.out] at o4 ⊢
      go_wp2_with fail
      go_ret2
      exact ⟨_, rfl, owns_base o4 B3.out.size, kt B3.out b4⟩
    · have e8 := E.out
      rw [ho] at e8
      rw [errV_some (by rw [e8]; rfl)] at CEn
      have e9 := (htsF_end HN.out ho).symm.trans HV.out
      simp only [Prod.mk.injEq] at e9
      obtain ⟨rfl, e10, rfl⟩ := e9
      obtain rfl : V2 = (m : Int) := by rw [← e10]; have := L.out; omega
      clear e8 e10 ho E
      go_wp2_with fail
      refine CEn.out.mono ?_
      rintro e w3 ⟨rfl, b3⟩
      go_wp2_with fail
      go_ret2
      exact ⟨_, rfl, World.ownsRow_nil _ _ _ _, kt B2.out b3⟩

theorem tell_any (pc n : Int) (h : n = 0 → pc = 0) (w : World) (hg : ErrTy w) :
    Calls Tryz.prog 52 #[errN pc n] w fun e w' => e = .returned (.tuple #[.int .i64 pc, .int .i64 n]) ∧ Below w.heap.size w w' := by
  by_cases h0 : n = 0
  · subst h0
    rw [h rfl, show errN 0 0 = .nilIface from rfl]
    exact tell_nil w
  · rw [show errN pc n = flt pc n by unfold errN; rw [if_neg h0]]
    exact tell_flt pc n w hg

set_option maxHeartbeats 2000000 in
theorem checkAll_any (pa : Option Addr) (pn pc : Nat) (ps : List Fn) (w : World) (hp : Fns w pa pn pc ps) (ld : Ld w) :
    Calls Tryz.prog 51 #[.agg #[.slice pa pn pc]] w fun e w' => ∃ at', (verV ps = 0 → at' = 0) ∧ e = .returned (errN at' (verV ps)) ∧ Below w.heap.size w w' := by
  have LP := hid hp.len
  have hpr := hp.room
  have hpc := hp.cap
  have hA : Below w.heap.size w (w.alloc (.cells #[.slice pa pn pc] 24)) := Below.alloc (Below.refl _ _) (Nat.le_refl _) _
  have HM := hid (mayBePacked_any pa pn pc ps _ (hp.kept hA) (ld.up hA))
  have HA := hid hA
  have HP := hid hp
  clear hA ld hp
  cases hk : packsB ps
  · rw [show verV ps = 500 by simp [verV, hk]]
    rw [hk] at HM
    go_enter Tryz.func51, Tryz.ntmps51
    go_wp2_with fail
    refine HM.out.mono ?_
    rintro e w1 ⟨rfl, hb⟩
    have B : Hid (Below w.heap.size w w1) := hid (kt HA.out hb)
    clear hb
    go_wp2_with fail
    go_ret
    exact ⟨0, fun _ => rfl, rfl, B.out⟩
  · rw [hk] at HM
    have HV : Hid (verV ps = verF ps pn 0) := hid (by simp [verV, hk, ← LP.out])
    have HK := hid hk
    clear hk
    go_enter Tryz.func51, Tryz.ntmps51
    go_wp2_with fail
    refine HM.out.mono ?_
    rintro e w1 ⟨rfl, hb⟩
    have B : Hid (Below w.heap.size w w1) := hid (kt HA.out hb)
    have p0 := kept_cell hb (b := w.heap.size) (o := 0) (v := .slice pa pn pc) (by simp [go_sem])
    clear hb HM
    go_wp2_with fail
    go_loopw [16] (fun s wr => ∃ q : Nat, q ≤ pn ∧ s = .int .i64 q ∧ verF ps (pn - q) q = verV ps ∧ wr.cell? ⟨w.heap.size, 0, none⟩ = some (.slice pa pn pc) ∧ Below w.heap.size w wr) (fun s _ => pn - (intOf s).toNat)
    case atStart => exact ⟨0, Nat.zero_le _, rfl, HV.out.symm, p0, B.out⟩
    case round =>
      clear p0 B
      obtain ⟨q, hq, rfl, hv, pb, hb⟩ := hrel
      have HQ := hid hv
      clear hv
      by_cases hlt : q < pn
      · have hfB := fnB_of HK.out (q := q) (by have := LP.out; omega) rfl
        obtain ⟨b0, o0, x, y, a, n, c, l, rfl, e3, d0, d1, d2, i3⟩ := (HP.out.kept hb).at q hlt
        have hst := htsV_ok HK.out (fn := q) (by have := LP.out; omega)
        rw [e3] at hfB hst
        have hA1 : Below wr.heap.size wr (wr.alloc (.cells #[.int .i64 x, .int .i64 y, .slice a n c] 48)) := Below.alloc (Below.refl _ _) (Nat.le_refl _) _
        have CH := hid (verCheck_any (some ⟨b0, o0, none⟩) pn pc ps x y a n c l _ ((HP.out.kept hb).kept hA1) (i3.kept hA1) HK.out hfB)
        have pb1 := kept_cell hA1 pb
        have A1 := hid hA1
        rw [← hst] at CH
        have hlt1 := lt_of_cell pb
        clear hA1 e3 i3 hfB hst
        by_cases h0 : (htsV ps q).2.2 = 0
        · have HQ2 : Hid (verF ps (pn - (q + 1)) (q + 1) = verV ps) := hid (by rw [← HQ.out, show pn - q = (pn - (q + 1)) + 1 by omega, verF_go h0])
          rw [show errN (htsV ps q).2.1 (htsV ps q).2.2 = .nilIface by unfold errN; rw [if_pos h0]] at CH
          clear h0
          go_wp2_with fail
          refine CH.out.mono ?_
          rintro e w2 ⟨v2, rfl, -, b2⟩
          have pb2 := kept_cell b2 pb1
          have HB2 := hid (kt (kt hb A1.out) b2)
          clear b2
          go_wp2_with fail
          go_roundw
          case rel => exact ⟨q + 1, by omega, by go_num, HQ2.out, pb2, HB2.out⟩
          case measure => simp [intOf]; omega
        · have HQ2 : Hid (verV ps = (htsV ps q).2.2) := hid (by rw [← HQ.out, show pn - q = (pn - (q + 1)) + 1 by omega, verF_bad h0])
          rw [show errN (htsV ps q).2.1 (htsV ps q).2.2 = .iface 101 (.agg #[.int .i64 (htsV ps q).2.1, .iface 30 (.int .i64 (htsV ps q).2.2)]) by unfold errN; rw [if_neg h0]; rfl] at CH
          have H0 := hid h0
          generalize hz : (htsV ps q).2.2 = z at *
          generalize hz1 : (htsV ps q).2.1 = z1 at *
          clear h0
          go_wp2_with fail
          refine CH.out.mono ?_
          rintro e w2 ⟨v2, rfl, -, b2⟩
          have HB2 := hid (kt (kt hb A1.out) b2)
          clear b2
          go_wp2_with fail
          go_ret
          exact ⟨z1, fun h => absurd (HQ2.out.symm.trans h) H0.out, by rw [HQ2.out]; unfold errN; rw [if_neg H0.out]; rfl, HB2.out⟩
      · have hqn : q = pn := by omega
        subst hqn
        have e0 := HQ.out
        rw [show q - q = 0 by omega] at e0
        have HQ2 : Hid (verV ps = 0) := hid e0.symm
        clear e0
        go_wp2_with fail
        go_ret
        exact ⟨0, fun _ => rfl, by rw [HQ2.out]; rfl, hb⟩

set_option maxHeartbeats 1000000 in
theorem verProgram (pa : Option Addr) (pn pc : Nat) (ps : List Fn) (w : World) (hp : Fns w pa pn pc ps) (ld : Ld w) :
    Calls Tryz.prog 39 #[.agg #[.slice pa pn pc]] w fun e w' => e = .returned (.int .i64 (verV ps)) ∧ Below w.heap.size w w' := by
  have hA : Below w.heap.size w (w.alloc (.cells #[.slice pa pn pc] 24)) := Below.alloc (Below.refl _ _) (Nat.le_refl _) _
  have HH := hid (checkAll_any pa pn pc ps _ (hp.kept hA) (ld.up hA))
  have HA := hid hA
  have LD := hid ld
  generalize verV ps = V at HH ⊢
  clear hA hp ld
  go_enter Tryz.func39, Tryz.ntmps39
  go_wp2_with fail
  refine HH.out.mono ?_
  rintro e w1 ⟨at1, h1, rfl, b1⟩
  have B1 := hid (kt HA.out b1)
  have TT := hid (tell_any at1 V h1 w1 (LD.out.up B1.out).2)
  clear b1 HH
  go_wp2_with fail
  refine TT.out.mono ?_
  rintro e w2 ⟨rfl, b2⟩
  go_wp2_with fail
  go_ret
  exact ⟨rfl, kt B1.out b2⟩

end Go.Proofs.YtppmkoigblimmaaGreatDoor
