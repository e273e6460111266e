/- What package verify returns: Heights and Program, by plain reckoning. -/
import Derived.Test.YtaimpljkbpnigaaGreatDoorJ5v
import Derived.Test.YtaimpljkbpnigaaGreatDoorRefHeights
import Derived.Test.YtaimpljkbpnigaaGreatDoorJ5p
import Derived.Deep.RegionHeld3
namespace Go.Proofs.YtaimpljkbpnigaaGreatDoor
open Go.RowKit
set_option linter.unusedVariables false

theorem htsF_pc {ps : List Fn} {f : Fn} (h : (htsF ps f).2.2 = 0) : (htsF ps f).2.1 = 0 := by
  unfold htsF at h ⊢
  split
  · rename_i i e; rw [e] at h; simp at h
  · rename_i e
    rw [e] at h
    simp only [] at h
    split
    · rename_i ho; rw [if_pos ho] at h; simp at h
    · rename_i ho; rw [if_neg ho] at h; exact walkF_pc _ _ _ h
theorem htsV_pc {ps : List Fn} {fn : Int} (h : (htsV ps fn).2.2 = 0) : (htsV ps fn).2.1 = 0 := by
  unfold htsV at h ⊢
  split
  · rename_i hc; rw [if_pos hc] at h; exact htsF_pc h
  · rfl
/-- The end of the code, told by the first place of which it is so. -/
theorem endAt {x y : Int} {l : List (Int × Int)} {m : Nat} (hl : l.length = m + 1) : firstAt (fun k => (reachL l).getD k false && endB l (m + 1) k) (m + 1) 0 = if openEnd (x, y, l) = true then some m else none := by
  rw [firstAt_last m 0 (fun j _ hj => by
    have : decide (j + 1 = m + 1) = false := by simp; omega
    simp only [endB, this, Bool.false_and, Bool.and_false])]
  have e : ((reachL l).getD (0 + m) false && endB l (m + 1) (0 + m)) = openEnd (x, y, l) := by
    unfold openEnd endB
    simp only [hl, Nat.zero_add, Nat.add_sub_cancel, decide_true, Bool.true_and]
  rw [e, Nat.zero_add]

theorem errV_some {i : Nat} {o : Option Nat} {k : Int} (h : o = some i) : errV o k = .iface 125 (.agg #[.int .i64 (i : Int), .iface 30 (.int .i64 k)]) := by rw [h]; rfl
theorem errV_none {o : Option Nat} {k : Int} (h : o = none) : errV o k = .nilIface := by rw [h]; rfl

set_option maxHeartbeats 4000000 in
theorem verCheck_any (pa : Option Addr) (pn pc : Nat) (ps : List Fn) (x y : Int) (a : Option Addr) (n c : Nat) (l : List (Int × Int)) (w : World) (hp : Fns w pa pn pc ps) (h : Inss w a n c l) (hk : packsB ps = true) (hfB : fnB (x, y, l) = true) :
    Calls Tryz.prog 70 #[.agg #[.slice pa pn pc], .agg #[.int .i64 x, .int .i64 y, .slice a n c]] w fun e w' => ∃ v, e = .returned (.tuple #[v, errN (htsF ps (x, y, l)).2.1 (htsF ps (x, y, l)).2.2]) ∧ w'.ownsRow w.heap.size 3 1 v (htsF ps (x, y, l)).1.length (ints (htsF ps (x, y, l)).1) ∧ Below w.heap.size w w' := by
  have hc : codeB l = true := by simp [fnB] at hfB; exact hfB.2
  have L := hid h.len
  have LP := hid hp.len
  have hpr := hp.room
  have hlen : 1 ≤ n ∧ n ≤ 64 := by rw [L.out]; simp [codeB] at hc; exact hc.1
  obtain ⟨m, rfl⟩ : ∃ m, n = m + 1 := ⟨n - 1, by omega⟩
  have HI := hid h
  have HP := hid hp
  have HK := hid hk
  have HC := hid hc
  have CE : cE l = 0 := by unfold cE; rw [if_pos hc]
  have HM := hid (reachL_marked (l := l) (by have := L.out; omega))
  have U : Hid (firstAt (unranged ps (x, y, l)) l.length 0 = firstAt (fun k => (reachL l).getD k false && !rangedB pn y (m + 1) (insAt l k).1 (insAt l k).2) (m + 1) 0) := hid (by
    rw [← L.out]; refine firstAt_congr _ _ (fun j _ _ => ?_)
    show ((reachL l).getD j false && !rangedB ps.length y l.length (insAt l j).1 (insAt l j).2) = _
    rw [← LP.out, ← L.out])
  have E := hid (endAt (x := x) (y := y) L.out.symm)
  generalize hV : htsF ps (x, y, l) = V
  have HV := hid hV
  obtain ⟨V1, V2, V3⟩ := V
  clear h hp hk hc hV hfB
  have hA : Below w.heap.size w ((w.alloc (.cells #[.slice pa pn pc] 24)).alloc (.cells #[.int .i64 x, .int .i64 y, .slice a (m + 1) c] 51)) := Below.alloc (Below.alloc (Below.refl _ _) (Nat.le_refl _) _) (by simp) _
  have HA := hid hA
  have RE := hid (reached_any x y a (m + 1) c l _ (HI.out.kept hA))
  rw [CE] at RE
  clear hA CE
  have P0 : Hid (((w.alloc (.cells #[.slice pa pn pc] 24)).alloc (.cells #[.int .i64 x, .int .i64 y, .slice a (m + 1) c] 51)).cell? ⟨w.heap.size, 0, none⟩ = some (.slice pa pn pc)) := hid (by simp [go_sem])
  have F0 : Hid (FB5 ((w.alloc (.cells #[.slice pa pn pc] 24)).alloc (.cells #[.int .i64 x, .int .i64 y, .slice a (m + 1) c] 51)) (w.heap.size + 1) x y (.slice a (m + 1) c)) := hid ⟨by simp [go_sem], by simp [go_sem], by simp [go_sem]⟩
  go_enter Tryz.func70, Tryz.ntmps70
  go_wp2_with fail
  refine RE.out.mono ?_
  rintro e w1 ⟨vr, bs, rfl, rd, ow, b1⟩
  have hM : Marked l bs := by
    rcases rd with ⟨_, h⟩ | ⟨h, _⟩
    · exact h
    · rw [HC.out] at h; cases h
  obtain rfl : reachL l = bs := HM.out.eq hM
  obtain ⟨ra, rn, rc, rfl, hB⟩ := bools_of_owns ow (by rw [hM.1, ← L.out]; omega)
  obtain rfl : rn = m + 1 := by rw [hB.len, hM.1, L.out]
  have B1 := hid (kt HA.out b1)
  have p1 := kept_cell b1 P0.out
  obtain ⟨f0, f1, f2⟩ := F0.out.kept b1
  have HB := hid hB
  clear b1 P0 F0 RE rd ow hM hB
  have CR := hid (checkRange_any pa pn pc x y a (m + 1) c l ra rc (reachL l) w1 (HI.out.kept B1.out) HB.out hpr)
  cases hfa : firstAt (unranged ps (x, y, l)) l.length 0 with
  | some i =>
    rw [errV_some (U.out.symm.trans hfa)] at CR
    have e9 := (htsF_range hfa).symm.trans HV.out
    simp only [Prod.mk.injEq] at e9
    obtain ⟨rfl, rfl, rfl⟩ := e9
    clear hfa U
    go_wp2_with fail
    refine CR.out.mono ?_
    rintro e w2 ⟨rfl, b2⟩
    go_wp2_with fail
    go_ret2
    exact ⟨_, rfl, World.ownsRow_nil _ _ _ _, kt B1.out b2⟩
  | none =>
    rw [errV_none (U.out.symm.trans hfa)] at CR
    have HN := hid hfa
    have HR : Hid (∀ i, Reach l i → rangedB pn y (m + 1) (insAt l i).1 (insAt l i).2 = true) := hid (by
      intro i hi
      have hil := hi.lt (by have := L.out; omega)
      have h1 := firstAt_none _ _ hfa i (Nat.zero_le _) (by omega)
      have h2 : (reachL l).getD i false = true := (HM.out.2 i hil).2 hi
      have h3 : ((reachL l).getD i false && !rangedB ps.length y l.length (insAt l i).1 (insAt l i).2) = false := h1
      rw [h2, ← LP.out, ← L.out] at h3
      simpa using h3)
    clear hfa U
    go_wp2_with fail
    refine CR.out.mono ?_
    rintro e w2 ⟨rfl, b2⟩
    have B2 := hid (kt B1.out b2)
    have p2 := kept_cell b2 p1
    have k0 := kept_cell b2 f0
    have k1 := kept_cell b2 f1
    have k2 := kept_cell b2 f2
    have CEn := hid (checkEnd_any x y a (m + 1) c l ra rc (reachL l) w2 (HI.out.kept B2.out) (HB.out.kept b2))
    clear b2 p1 f0 f1 f2 CR
    cases ho : openEnd (x, y, l)
    · have e8 := E.out
      rw [ho] at e8
      rw [errV_none (by rw [e8]; rfl)] at CEn
      have e9 := (htsF_walk HN.out ho).symm.trans HV.out
      have WV : Hid (walkV ps l = (V1, V2, V3)) := hid e9
      clear e8 e9 ho E
      go_wp2_with fail
      refine CEn.out.mono ?_
      rintro e w3 ⟨rfl, b3⟩
      have B3 := hid (kt B2.out b3)
      have p3 := kept_cell b3 p2
      have q0 := kept_cell b3 k0
      have q1 := kept_cell b3 k1
      have q2 := kept_cell b3 k2
      clear b3 p2 k0 k1 k2 CEn
      go_wp2_with fail
      refine (walk_any pa pn pc ps x y a (m + 1) c l w3 (HP.out.kept B3.out) (HI.out.kept B3.out) HK.out HC.out HR.out).mono ?_
      rintro e w4 ⟨v4, rfl, o4, b4⟩
      rw [WV.out] at o4 ⊢
      go_wp2_with fail
      go_ret2
      exact ⟨_, rfl, owns_base o4 B3.out.size, kt B3.out b4⟩
    · have e8 := E.out
      rw [ho] at e8
      rw [errV_some (by rw [e8]; rfl)] at CEn
      have e9 := (htsF_end HN.out ho).symm.trans HV.out
      simp only [Prod.mk.injEq] at e9
      obtain ⟨rfl, e10, rfl⟩ := e9
      obtain rfl : V2 = (m : Int) := by rw [← e10]; have := L.out; omega
      clear e8 e10 ho E
      go_wp2_with fail
      refine CEn.out.mono ?_
      rintro e w3 ⟨rfl, b3⟩
      go_wp2_with fail
      go_ret2
      exact ⟨_, rfl, World.ownsRow_nil _ _ _ _, kt B2.out b3⟩

set_option maxHeartbeats 4000000 in
theorem heightsOf_any (pa : Option Addr) (pn pc : Nat) (ps : List Fn) (fn : Int) (w : World) (hp : Fns w pa pn pc ps) (ld : Ld w) :
    Calls Tryz.prog 54 #[.agg #[.slice pa pn pc], .int .i64 fn] w fun e w' => ∃ v, e = .returned (.tuple #[v, errN (htsV ps fn).2.1 (htsV ps fn).2.2]) ∧ w'.ownsRow w.heap.size 3 1 v (htsV ps fn).1.length (ints (htsV ps fn).1) ∧ Below w.heap.size w w' := by
  have LP := hid hp.len
  have hpr := hp.room
  have hpc := hp.cap
  have hA : Below w.heap.size w (w.alloc (.cells #[.slice pa pn pc] 24)) := Below.alloc (Below.refl _ _) (Nat.le_refl _) _
  have HM := hid (mayBePacked_any pa pn pc ps _ (hp.kept hA) (ld.up hA))
  have HA := hid hA
  have HP := hid hp
  clear hA ld hp
  cases hk : packsB ps
  · rw [htsV_bad (.inl hk)]
    rw [hk] at HM
    go_enter Tryz.func54, Tryz.ntmps54
    go_wp2_with fail
    refine HM.out.mono ?_
    rintro e w1 ⟨rfl, hb⟩
    have d := kept_cell hb (b := w.heap.size) (o := 0) (v := .slice pa pn pc) (by simp [go_sem])
    have B : Hid (Below w.heap.size w w1) := hid (kt HA.out hb)
    clear hb
    go_wp2_with fail
    go_ret2
    exact ⟨_, rfl, World.ownsRow_nil _ _ _ _, B.out⟩
  rw [hk] at HM
  by_cases hneg : fn < 0
  · rw [htsV_bad (.inr (by simp [inB]; omega))]
    go_enter Tryz.func54, Tryz.ntmps54
    go_wp2_with fail
    refine HM.out.mono ?_
    rintro e w1 ⟨rfl, hb⟩
    have d := kept_cell hb (b := w.heap.size) (o := 0) (v := .slice pa pn pc) (by simp [go_sem])
    have B : Hid (Below w.heap.size w w1) := hid (kt HA.out hb)
    clear hb
    go_wp2_with fail
    go_ret2
    exact ⟨_, rfl, World.ownsRow_nil _ _ _ _, B.out⟩
  obtain ⟨f, rfl⟩ : ∃ f : Nat, fn = f := ⟨fn.toNat, by omega⟩
  clear hneg
  by_cases hfn : f < pn
  rotate_left
  · rw [htsV_bad (.inr (by simp [inB]; have := LP.out; omega))]
    go_enter Tryz.func54, Tryz.ntmps54
    go_wp2_with fail
    refine HM.out.mono ?_
    rintro e w1 ⟨rfl, hb⟩
    have d := kept_cell hb (b := w.heap.size) (o := 0) (v := .slice pa pn pc) (by simp [go_sem])
    have B : Hid (Below w.heap.size w w1) := hid (kt HA.out hb)
    clear hb
    go_wp2_with fail
    go_ret2
    exact ⟨_, rfl, World.ownsRow_nil _ _ _ _, B.out⟩
  rw [htsV_ok hk (by have := LP.out; omega)]
  have hfB := fnB_of hk (q := f) (by have := LP.out; omega) rfl
  obtain ⟨b0, o0, x, y, a, n, c, l, rfl, e3, d0, d1, d2, i3⟩ := HP.out.at f hfn
  rw [e3] at hfB ⊢
  have CH := hid (fun u (hb : Below w.heap.size w u) => verCheck_any (some ⟨b0, o0, none⟩) pn pc ps x y a n c l u (HP.out.kept hb) (i3.kept hb) hk hfB)
  generalize hV : htsF ps (x, y, l) = V at CH ⊢
  clear hk hfB e3 i3 hV
  go_enter Tryz.func54, Tryz.ntmps54
  go_wp2_with fail
  refine HM.out.mono ?_
  rintro e w1 ⟨rfl, hb⟩
  have B : Hid (Below w.heap.size w w1) := hid (kt HA.out hb)
  have p0 := kept_cell hb (b := w.heap.size) (o := 0) (v := .slice (some ⟨b0, o0, none⟩) pn pc) (by simp [go_sem])
  replace d0 := kept_cell B.out d0
  replace d1 := kept_cell B.out d1
  replace d2 := kept_cell B.out d2
  have BD : Hid (Below w.heap.size w w1.drew) := hid (kt B.out (Below.drew (Below.refl _ _)))
  have CC := hid (CH.out w1.drew BD.out)
  have hD : Below w1.heap.size w1 w1.drew := Below.drew (Below.refl _ _)
  have PD := hid (And.intro (kept_cell hD p0) (And.intro (kept_cell hD d0) (And.intro (kept_cell hD d1) (kept_cell hD d2))))
  clear hb HM CH hD
  go_wp2_with fail
  go_region_held3 (fun w' => w'.cell? ⟨w.heap.size, 0, none⟩ = some (.slice (some ⟨b0, o0, none⟩) pn pc) ∧ w'.cell? ⟨b0, o0 + f * 3, none⟩ = some (.int .i64 x) ∧ w'.cell? ⟨b0, o0 + f * 3 + 1, none⟩ = some (.int .i64 y) ∧ w'.cell? ⟨b0, o0 + f * 3 + 2, none⟩ = some (.slice a n c)) (go_keep) (first | (go_at_call 70; refine CC.out.mono ?_; rintro e w2 ⟨v2, rfl, o2, b2⟩; have t0 := kept_cell b2 PD.out.1; have t1 := kept_cell b2 PD.out.2.1; have t2 := kept_cell b2 PD.out.2.2.1; have t3 := kept_cell b2 PD.out.2.2.2; have R2 := hid (And.intro o2 b2); clear o2 b2))
  all_goals
    go_wp2_with fail
    go_ret2
    exact ⟨_, rfl, owns_base R2.out.1 BD.out.size, kt BD.out R2.out.2⟩

theorem tell_any (pc n : Int) (h : n = 0 → pc = 0) (w : World) (hg : ErrTy w) :
    Calls Tryz.prog 55 #[errN pc n] w fun e w' => e = .returned (.tuple #[.int .i64 pc, .int .i64 n]) ∧ Below w.heap.size w w' := by
  by_cases h0 : n = 0
  · subst h0
    rw [h rfl, show errN 0 0 = .nilIface from rfl]
    exact tell_nil w
  · rw [show errN pc n = flt pc n by unfold errN; rw [if_neg h0]]
    exact tell_flt pc n w hg

set_option maxHeartbeats 1000000 in
theorem verHeights (pa : Option Addr) (pn pc : Nat) (ps : List Fn) (fn : Int) (w : World) (hp : Fns w pa pn pc ps) (ld : Ld w) :
    Calls Tryz.prog 37 #[.agg #[.slice pa pn pc], .int .i64 fn] w fun e w' => ∃ v, e = .returned (.tuple #[v, .int .i64 (htsV ps fn).2.1, .int .i64 (htsV ps fn).2.2]) ∧ w'.ownsRow w.heap.size 3 1 v (htsV ps fn).1.length (ints (htsV ps fn).1) ∧ Below w.heap.size w w' := by
  have hA : Below w.heap.size w (w.alloc (.cells #[.slice pa pn pc] 24)) := Below.alloc (Below.refl _ _) (Nat.le_refl _) _
  have HH := hid (heightsOf_any pa pn pc ps fn _ (hp.kept hA) (ld.up hA))
  have HT := hid (htsV_pc (ps := ps) (fn := fn))
  have HA := hid hA
  have LD := hid ld
  generalize htsV ps fn = V at HH HT ⊢
  obtain ⟨V1, V2, V3⟩ := V
  clear hA hp ld
  go_enter Tryz.func37, Tryz.ntmps37
  go_wp2_with fail
  refine HH.out.mono ?_
  rintro e w1 ⟨v1, rfl, o1, b1⟩
  have B1 := hid (kt HA.out b1)
  have O1 := hid o1
  have TT := hid (tell_any V2 V3 HT.out w1 (LD.out.up B1.out).2)
  clear b1 o1 HH
  go_wp2_with fail
  refine TT.out.mono ?_
  rintro e w2 ⟨rfl, b2⟩
  go_wp2_with fail
  go_ret3
  exact ⟨_, rfl, owns_kept (owns_base O1.out (by simp)) b2, kt B1.out b2⟩

end Go.Proofs.YtaimpljkbpnigaaGreatDoor
