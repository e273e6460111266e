/- The document's own Lower of a straight function: all of it reached, no jump, no call. Written by lowsgen.py. -/
import Derived.Test.YtfnfbebkeoilfaaGreatDoorRefOne
import Derived.Test.YtfnfbebkeoilfaaGreatDoorMakeIr
import Derived.Test.YtfnfbebkeoilfaaGreatDoorHeapBits
import Derived.Test.YtfnfbebkeoilfaaGreatDoorJ9b
import Derived.Deep.OwnRows
import Derived.Laws.MakeOwn
import Derived.Deep.DeepCutAuto
import Derived.Deep.RegionHeld3
import Derived.Deep.AppendLies
import Derived.Lib.QuietBelow
namespace Go.Proofs.YtfnfbebkeoilfaaGreatDoor
open Go.RowKit
set_option linter.unusedVariables false

/-- A straight function as code. -/
def lowS (ps : List Fn) (f : Nat) (gy : Int) (fl : List (Int × Int)) : List IrT := (List.range fl.length).map (fun (q : Nat) => oneV ps (gy + heightV ps (f : Int) (q : Int)) (q : Int) (insAt fl q))
theorem lowS_at {ps : List Fn} {f q : Nat} {gy : Int} {fl : List (Int × Int)} {x : Int × Int} (h : fl[q]? = some x) : (lowS ps f gy fl)[q]? = some (oneV ps (gy + heightV ps (f : Int) (q : Int)) (q : Int) x) := by
  have hl := (List.getElem?_eq_some_iff.1 h).1
  have hx := (List.getElem?_eq_some_iff.1 h).2
  simp [lowS, hl, insAt, hx]
theorem lowS_len (ps : List Fn) (f : Nat) (gy : Int) (fl : List (Int × Int)) : (lowS ps f gy fl).length = fl.length := by simp [lowS]
theorem one_kind {ps : List Fn} {T pc : Int} {K A : Int} (h2 : ¬ K = 12) (h3 : ¬ K = 13) : ¬ (oneV ps T pc (K, A)).1 = 4 ∧ ¬ (oneV ps T pc (K, A)).1 = 5 := by
  unfold oneV
  simp only [h2, h3, if_false]
  refine ⟨?_, ?_⟩ <;> (repeat' split) <;> simp


/-- Places: a row of numbers of the call's own. -/
structure PlSt (w : World) (g n base : Nat) (l : List Int) : Prop where
  len : l.length = n
  row : w.ownsRow base 3 1 (.slice (some ⟨g, 0, none⟩) n n) n (ints l)
theorem PlSt.at {w : World} {g n base : Nat} {l : List Int} (h : PlSt w g n base l) (i : Nat) (hi : i < n) : w.cell? ⟨g, i, none⟩ = some (.int .i64 (l.getD i 0)) := by
  rw [h.row.cellAt i (by omega)]
  have hl : i < l.length := by rw [h.len]; exact hi
  simp [ints, hl, List.getD_eq_getElem?_getD]
theorem PlSt.free {w : World} {g n base : Nat} {l : List Int} (h : PlSt w g n base l) (i : Nat) : w.frozen? ⟨g, i, none⟩ = false := h.row.frozenAt i
theorem PlSt.put {w : World} {g n base : Nat} {l : List Int} (h : PlSt w g n base l) (i : Nat) (x : Int) : PlSt (w.setCell ⟨g, i, none⟩ (.int .i64 x)) g n base (l.set i x) := by
  refine ⟨by simpa using h.len, ?_⟩
  have := (h.row.stored i (.int .i64 x)).1
  simpa [ints, List.map_set] using this
theorem PlSt.kept {w w' : World} {g n base : Nat} {l : List Int} (h : PlSt w g n base l) (hb : Below w.heap.size w w') : PlSt w' g n base l := ⟨h.len, owns_kept h.row hb⟩
theorem PlSt.frm {w w' : World} {g n base : Nat} {l : List Int} (h : PlSt w g n base l) (hb : w'.heap[g]? = w.heap[g]?) : PlSt w' g n base l := ⟨h.len, row_frm h.row (fun b e => by cases e; exact hb)⟩
theorem PlSt.setFar {w : World} {g n base : Nat} {l : List Int} {p : Addr} {u : Value} (h : PlSt w g n base l) (hp : p.block ≠ g) : PlSt (w.setCell p u) g n base l := h.frm (Below.heap_setCell _ _ _ g (Ne.symm hp))
structure Res0 (w : World) (b : Nat) : Prop where
  c0 : w.cell? ⟨b, 0, none⟩ = some (.int .i64 0)
  c1 : w.cell? ⟨b, 1, none⟩ = some (.int .i64 0)
  c2 : w.cell? ⟨b, 2, none⟩ = some (.slice none 0 0)
  c3 : w.cell? ⟨b, 3, none⟩ = some (.slice none 0 0)
  fz : ∀ j, w.frozen? ⟨b, j, none⟩ = false
theorem Res0.frm {w w' : World} {b : Nat} (h : Res0 w b) (e : w'.heap[b]? = w.heap[b]?) : Res0 w' b := ⟨(cellFrm e).trans h.c0, (cellFrm e).trans h.c1, (cellFrm e).trans h.c2, (cellFrm e).trans h.c3, fun j => (freeFrm e).trans (h.fz j)⟩
theorem make_places (n : Nat) (hn : n ≤ 100000) (u : World) : (Instr.makeSlice 40 (.int .i64 (n : Int)) (.int .i64 (n : Int))).run Tryz.prog u = .ok (.slice (some ⟨u.heap.size, 0, none⟩) n n) (u.alloc (.cells (madeCells #[.int .i64 0] n) 3)) := by
  obtain ⟨j0, hjf, hy0, hy1, hy2⟩ := info_parts Tryz.infoIntC
  have hr := run_make (P := Tryz.prog) u 40 3 j0 (.int .i64 0) Tryz.underlying40 hjf hy0 .i64 .i64 (n : Int) (n : Int) (by omega) (Int.le_refl _) (by rw [hy2]; omega) (by omega)
  simp only [Int.toNat_natCast, hy1, Nat.mul_one] at hr
  exact hr
theorem PlSt.make (w : World) (n base : Nat) (hb : base ≤ w.heap.size) (hn : n ≤ maxLen) : PlSt (w.alloc (.cells (madeCells #[.int .i64 0] n) 3)) w.heap.size n base (List.replicate n 0) := by
  refine ⟨by simp, ?_⟩
  have := World.ownsRow_lit (e := 3) (size := 1) w (madeCells #[.int .i64 0] n) n hb hn (by simp [madeCells])
  rw [toList_madeCells_one] at this
  simpa [ints] using this

set_option maxRecDepth 100000 in
set_option maxHeartbeats 16000000 in
theorem refLowS_any (pa : Option Addr) (pn pc : Nat) (ps : List Fn) (f : Nat) (gx gy : Int) (fl : List (Int × Int)) (w : World) (hp : Fns w pa pn pc ps) (hv : verV ps = 0) (hf : f < ps.length) (e3 : ps.getD f noFn = (gx, gy, fl)) (hs : ∀ (q : Nat) (K A : Int), fl[q]? = some (K, A) → 0 ≤ heightV ps (f : Int) (q : Int) ∧ ¬ K = 12 ∧ ¬ K = 13 ∧ ¬ K = 14) :
    Calls Tryz.prog 27 #[.agg #[.slice pa pn pc], .int .i64 (f : Int)] w fun e w' => ∃ v, e = .returned (.tuple #[.agg #[.int .i64 (f : Int), .int .i64 (gy + 8), v, .slice none 0 0], .int .i64 0]) ∧ OSl layIr 42 88 w' (fun b => w.heap.size ≤ b) v (lowS ps f gy fl) ∧ Below w.heap.size w w' := by
  obtain ⟨i0, hi, hz0, hz1, hz2⟩ := info_parts Tryz.infoIr
  have HP := hid hp
  have LP := hid hp.len
  have hpr := hp.room
  have hpc := hp.cap
  have HV := hid hv
  have HS := hid hs
  have E3 := hid e3
  have hvf := ver_fn hv hf e3
  have hfn : f < pn := by rw [LP.out]; exact hf
  have hgy : 0 ≤ gy ∧ gy ≤ 8 := by omega
  clear hp hs hv e3
  have qf0 : (0 : Int) ≤ (f : Int) := by omega
  have qf1 : (f : Int) < (pn : Int) := by omega
  go_enter Tryz.func27, Tryz.ntmps27
  go_upto_region 1 with fail
  refine wp_name ?_
  intro U hU
  have B : Hid (Below w.heap.size w U) := hid (by rw [hU]; go_grown)
  have p0 : U.cell? ⟨w.heap.size, 0, none⟩ = some (.slice pa pn pc) := by rw [hU]; simp [go_sem]
  have R0 : Hid ((U.cell? ⟨w.heap.size + 1, 0, none⟩ = some (.int .i64 0) ∧ U.cell? ⟨w.heap.size + 1, 1, none⟩ = some (.int .i64 0) ∧ U.cell? ⟨w.heap.size + 1, 2, none⟩ = some (.slice none 0 0) ∧ U.cell? ⟨w.heap.size + 1, 3, none⟩ = some (.slice none 0 0)) ∧ ∀ j, U.frozen? ⟨w.heap.size + 1, j, none⟩ = false) := hid (by rw [hU]; exact ⟨⟨by simp [go_sem], by simp [go_sem], by simp [go_sem], by simp [go_sem]⟩, fun j => by simp [go_sem]⟩)
  clear hU
  have SV : Hid (∀ u, Below U.heap.size U u → Calls Tryz.prog 20 #[.agg #[.slice pa pn pc]] u fun e w' => e = .returned (.int .i64 0) ∧ Below u.heap.size u w') := hid (fun u hu => by have h := refVerify_any _ _ _ ps u (HP.out.kept (kt B.out hu)); rwa [HV.out] at h)
  have d1 : decide ((f : Int) < 0) = false := by simp
  have d2 : decide ((pn : Int) ≤ (f : Int)) = false := by simp; omega
  have d2' : decide (pn ≤ f) = false := by simp; omega
  go_wp2_with fail
  refine (SV.out _ (Below.refl _ _)).mono ?_
  rintro e X ⟨rfl, bX⟩
  have BX := hid (kt B.out bX)
  replace p0 := kept_cell bX p0
  have RX : Hid ((X.cell? ⟨w.heap.size + 1, 0, none⟩ = some (.int .i64 0) ∧ X.cell? ⟨w.heap.size + 1, 1, none⟩ = some (.int .i64 0) ∧ X.cell? ⟨w.heap.size + 1, 2, none⟩ = some (.slice none 0 0) ∧ X.cell? ⟨w.heap.size + 1, 3, none⟩ = some (.slice none 0 0)) ∧ ∀ j, X.frozen? ⟨w.heap.size + 1, j, none⟩ = false) := hid ⟨⟨kept_cell bX R0.out.1.1, kept_cell bX R0.out.1.2.1, kept_cell bX R0.out.1.2.2.1, kept_cell bX R0.out.1.2.2.2⟩, fun j => (bX.frozen (p := ⟨w.heap.size + 1, j, none⟩) (lt_of_cell R0.out.1.1)).trans (R0.out.2 j)⟩
  clear SV bX
  have D12 := hid (And.intro d1 (And.intro d2 d2'))
  clear d1 d2 d2'
  obtain ⟨bp, op, gx', gy', ga, gn, gc, gl, rfl, e3', d0, d1, d2, i3⟩ := HP.out.at f hfn
  have e := E3.out.symm.trans e3'
  obtain ⟨rfl, rfl, rfl⟩ : gx = gx' ∧ gy = gy' ∧ fl = gl := by cases e; exact ⟨rfl, rfl, rfl⟩
  have LG := hid i3.len
  have hgr := i3.room
  have hgc := i3.cap
  have hgn : gn ≤ 64 := by rw [LG.out]; omega
  have I3 := hid i3
  replace d0 := kept_cell BX.out d0
  replace d1 := kept_cell BX.out d1
  replace d2 := kept_cell BX.out d2
  have hzX := lt_of_cell d0
  have hzp := lt_of_cell p0
  have hmk := make_places gn (by omega)
  clear e3' e i3
  have D1 := D12.out.1
  have D2 := D12.out.2.1
  have D3 := D12.out.2.2
  go_upto_region 7 with fail
  refine wp_name ?_
  intro Y hY
  have AY : Hid (Below X.heap.size X Y) := hid (by rw [hY]; go_grown)
  have BY := hid (kt BX.out AY.out)
  have OCY : Hid (OutC Y (X.heap.size + 1) (f : Int) (gy + 8) (.slice none 0 0) (.slice none 0 0)) := hid (by rw [hY]; exact ⟨by simp [go_sem], by simp [go_sem], by simp [go_sem], by simp [go_sem], by simp [go_sem], by simp [go_sem]⟩)
  have f1 : Y.cell? ⟨(X.heap.size), 1, none⟩ = some (.int .i64 gy) := by rw [hY]; simp [go_sem]
  have f2 : Y.cell? ⟨(X.heap.size), 2, none⟩ = some (.slice ga gn gc) := by rw [hY]; simp [go_sem]
  have PSY : Hid (PlSt Y (X.heap.size + 1 + 1) gn w.heap.size (List.replicate gn 0)) := hid (by
    rw [hY]
    have := PlSt.make ((X.alloc (.cells #[.int .i64 gx, .int .i64 gy, .slice ga gn gc] 65)).alloc (.cells #[.int .i64 (f : Int), .int .i64 (gy + 8), .slice none 0 0, .slice none 0 0] 28)) gn w.heap.size (by have := BX.out.size; simp; omega) (by unfold maxLen; omega)
    simpa using this)
  have RSY : Hid (Res0 Y (w.heap.size + 1)) := hid ((Res0.mk RX.out.1.1 RX.out.1.2.1 RX.out.1.2.2.1 RX.out.1.2.2.2 RX.out.2).frm (AY.out.block _ (lt_of_cell RX.out.1.1)))
  have HSY : Hid (Y.heap.size = X.heap.size + 3) := hid (by rw [hY]; simp)
  have hWX : Hid (w.heap.size + 2 ≤ X.heap.size) := hid (by have := lt_of_cell RX.out.1.1; omega)
  replace p0 := kept_cell AY.out p0
  have hlt0 : w.heap.size < (X.heap.size) := by have := hWX.out; omega
  clear hY d0 d1 d2 hzX hmk D1 D2 D3
  go_loopw [9] (fun i wr => ∃ (q : Nat) (va : Option Addr) (vn vc : Nat) (pl : List Int), q ≤ gn ∧ i = .int .i64 q ∧ OutC wr (X.heap.size + 1) (f : Int) (gy + 8) (.slice va vn vc) (.slice none 0 0) ∧ OSl layIr 42 88 wr (fun b => (X.heap.size + 1 + 1) < b) (.slice va vn vc) ((lowS ps f gy fl).take q) ∧ PlSt wr (X.heap.size + 1 + 1) gn w.heap.size pl ∧ wr.cell? ⟨w.heap.size, 0, none⟩ = some (.slice (some ⟨bp, op, none⟩) pn pc) ∧ wr.cell? ⟨(X.heap.size), 1, none⟩ = some (.int .i64 gy) ∧ wr.cell? ⟨(X.heap.size), 2, none⟩ = some (.slice ga gn gc) ∧ Res0 wr (w.heap.size + 1) ∧ Below w.heap.size w wr) (fun i _ => gn - (intOf i).toNat)
  case atStart => exact ⟨0, none, 0, 0, _, Nat.zero_le _, rfl, OCY.out, OSl.nil _ _ _ _ _, PSY.out, p0, f1, f2, RSY.out, BY.out⟩
  case round =>
    clear OCY f1 f2 PSY p0 BY
    obtain ⟨q, va, vn, vc, pl, hq, rfl, oc, ho, ps1, p0, f1, f2, rs, hb⟩ := hrel
    obtain ⟨V, hV⟩ : ∃ V : World, V = wr := ⟨_, rfl⟩
    subst hV
    have HO := hid ho
    have HB := hid hb
    have HPS := hid ps1
    have OCW := hid oc
    have RS := hid rs
    have hzr := lt_of_cell rs.c0
    have hzp := lt_of_cell p0
    have hzf := lt_of_cell f1
    have hzg := ps1.row.lt (X.heap.size + 1 + 1) rfl
    have hzc := lt_of_cell oc.c2
    by_cases hlt : q < gn
    · obtain ⟨bi, oi, kN, aN, rfl, e7, k0w, k1w⟩ := I3.out.at q hlt
      have hbi := lt_of_cell k0w
      have k0 := kept_cell hb k0w
      have k1 := kept_cell hb k1w
      have hx0 : fl[q]? = some (kN, aN) := by
        rw [List.getD_eq_getElem?_getD, List.getElem?_eq_getElem (by have := LG.out; omega)] at e7
        rw [List.getElem?_eq_getElem (by have := LG.out; omega), ← e7]; rfl
      have HX := hid hx0
      obtain ⟨hh, hk12, hk13, hk14⟩ := HS.out q kN aN hx0
      have HH := hid hh
      have hvn : q = vn := by
        obtain ⟨a', n', c', e', sl⟩ := ho.reads
        cases e'
        have h1 := sl.len
        rw [List.length_take, lowS_len] at h1
        have := LG.out; omega
      subst hvn
      have s1 := ps1.at q hlt
      have s2 := ps1.free q
      have hq64 : q < 64 := by omega
      obtain ⟨c0, c1, c2, c3, cf2, cf3⟩ := oc
      have g12 : (kN == 12) = false := by simpa using hk12
      have g13 : (kN == 13) = false := by simpa using hk13
      generalize pl.getD q 0 = y at s1
      clear e7 hx0 ho ps1 hb hk12 hk13 k0w k1w
      go_upto_region 10 with fail
      refine wp_name ?_
      intro VS hVS
      have HVS := hid hVS
      have PS1 : Hid (PlSt VS (X.heap.size + 1 + 1) gn w.heap.size (pl.set q (q : Int))) := hid (by rw [hVS]; exact HPS.out.put q _)
      have OC1 : Hid (OutC VS (X.heap.size + 1) (f : Int) (gy + 8) (.slice va q vc) (.slice none 0 0)) := hid (by rw [hVS]; exact OCW.out.setFar (by first | (simp; done) | (simp; omega)))
      have HO1 : Hid (OSl layIr 42 88 VS (fun b => (X.heap.size + 1 + 1) < b) (.slice va q vc) ((lowS ps f gy fl).take q)) := hid (by rw [hVS]; exact HO.out.set _ _ (by simp))
      have BW1 : Hid (Below w.heap.size w VS) := hid (by rw [hVS]; exact Below.setCell HB.out (by first | (simp; done) | (simp; omega)) _)
      have RSS : Hid (Res0 VS (w.heap.size + 1)) := hid (by rw [hVS]; exact RS.out.frm (Below.heap_setCell _ _ _ _ (by first | (simp; done) | (simp; omega))))
      have p0' : VS.cell? ⟨w.heap.size, 0, none⟩ = some (.slice (some ⟨bp, op, none⟩) pn pc) := by rw [hVS]; exact cell_set_far p0 (by first | (simp; done) | (simp; omega))
      have f1' : VS.cell? ⟨(X.heap.size), 1, none⟩ = some (.int .i64 gy) := by rw [hVS]; exact cell_set_far f1 (by first | (simp; done) | (simp; omega))
      have f2' : VS.cell? ⟨(X.heap.size), 2, none⟩ = some (.slice (some ⟨bi, oi, none⟩) gn gc) := by rw [hVS]; exact cell_set_far f2 (by first | (simp; done) | (simp; omega))
      have k0' : VS.cell? ⟨bi, oi + q * 2, none⟩ = some (.int .i64 kN) := by rw [hVS]; exact cell_set_far k0 (by first | (simp; done) | (simp; omega))
      have k1' : VS.cell? ⟨bi, oi + q * 2 + 1, none⟩ = some (.int .i64 aN) := by rw [hVS]; exact cell_set_far k1 (by first | (simp; done) | (simp; omega))
      clear hVS p0 f1 f2 k0 k1 c0 c1 c2 c3 cf2 cf3 s1 s2 HVS hzp hzf hzg hzc hzr rs
      go_wp2_with fail
      refine (refHeight_any _ _ _ ps (f : Int) (q : Int) _ (HP.out.kept BW1.out)).mono ?_
      rintro e V1 ⟨rfl, bV1⟩
      have hh' : ¬ heightV ps (f : Int) (q : Int) < 0 := by have := HH.out; omega
      have PS2 := hid (PS1.out.kept bV1)
      have OC2 := hid (OC1.out.kept bV1)
      have HO2 := hid (HO1.out.kept bV1)
      have RS2 := hid (RSS.out.frm (bV1.block _ (lt_of_cell RSS.out.c0)))
      have BW2 := hid (kt BW1.out bV1)
      replace p0' := kept_cell bV1 p0'
      replace f1' := kept_cell bV1 f1'
      replace f2' := kept_cell bV1 f2'
      replace k0' := kept_cell bV1 k0'
      replace k1' := kept_cell bV1 k1'
      have zf := lt_of_cell f1'
      have zk := lt_of_cell k0'
      clear bV1
      generalize heightV ps (f : Int) (q : Int) = HT at hh'
      go_upto_region 15 with fail
      refine wp_name ?_
      intro V0 hV0
      have bV0 : Below V1.heap.size V1 V0 := by rw [hV0]; exact Below.alloc (Below.refl _ _) (Nat.le_refl _) _
      have PS := hid (PS2.out.kept bV0)
      have OCV := hid (OC2.out.kept bV0)
      have HOV := hid (HO2.out.kept bV0)
      have RS0 := hid (RS2.out.frm (bV0.block _ (lt_of_cell RS2.out.c0)))
      have hzr0 := lt_of_cell RS0.out.c0
      have BW := hid (kt BW2.out bV0)
      have BV0 := BW
      have q0V := hid (kept_cell bV0 p0')
      have f1V := hid (kept_cell bV0 f1')
      have f2V := hid (kept_cell bV0 f2')
      have hzG := PS.out.row.lt (X.heap.size + 1 + 1) rfl
      have hzC := lt_of_cell OCV.out.c2
      have hzF := lt_of_cell f1V.out
      have d2 := OCV.out.c2
      have df2 := OCV.out.f2
      have hzW := BW.out.size
      obtain ⟨t, F, sn⟩ := HOV.out.snocIn
      have SN := hid sn
      have HQ : Hid (((lowS ps f gy fl).take q).length = q) := hid (by rw [List.length_take, lowS_len]; have := LG.out; omega)
      have HRW : Hid (V0.ownsRow 0 42 9 (.slice va q vc) q t.flatten) := hid (by have := sn.row; rwa [HQ.out] at this)
      have SA : Hid (∀ w', Below V0.heap.size V0 w' → (w'.cell? ⟨w.heap.size, 0, none⟩ = some (.slice (some ⟨bp, op, none⟩) pn pc)) ∧ (w'.cell? ⟨(X.heap.size + 1), 2, none⟩ = some (.slice va q vc))) := hid (fun w' b => ⟨kept_cell b q0V.out, kept_cell b OCV.out.c2⟩)
      have BC : Below V0.heap.size V0 V0 := Below.refl _ _
      clear hV0 bV0 p0' f1' f2' k0' k1' sn zf zk d2 df2
      refine wp_region_L 9 (fun w' => w'.cell? ⟨w.heap.size, 0, none⟩ = some (.slice (some ⟨bp, op, none⟩) pn pc)) (fun w' => w'.cell? ⟨(X.heap.size + 1), 2, none⟩ = some (.slice va q vc)) (by kernel_rfl) ?_ (fun hH0 => ?_)
      · (try dsimp only); first | (refine SA.out _ ?_; (repeat (first | with_reducible exact BC | with_reducible refine qDrew ?_ | with_reducible refine qAlloc ?_)); done) | exact ⟨(cellFrm (P.out.2.2 _ (by omega))).trans q0V.out, P.out.1.c2⟩
      refine wpL_take (i := 0) (oi := ⟨_, _, _, _, _, _⟩) (v := ?_) rfl (by kernel_rfl) (by kernel_rfl) (by kernel_rfl) (by kernel_rfl) (by kernel_rfl) (fun _ _ _ h => h) (Or.inl ⟨by rfl, ?_⟩) (by exact hH0) ?_
      rotate_left
      · (intro x hx; (try dsimp only at hx); go_simp; try (with_reducible rfl))
      try simp only [Act.put, List.setIfInBounds_toArray, List.set_cons_zero, List.set_cons_succ]
      refine wpL_take (i := 1) (oi := ⟨_, _, _, _, _, _⟩) (v := ?_) rfl (by kernel_rfl) (by kernel_rfl) (by kernel_rfl) (by kernel_rfl) (by kernel_rfl) (fun _ _ _ h => h) (Or.inl ⟨by rfl, ?_⟩) (by exact hH0) ?_
      rotate_left
      · (intro x hx; (try dsimp only at hx); go_simp; try (with_reducible rfl))
      try simp only [Act.put, List.setIfInBounds_toArray, List.set_cons_zero, List.set_cons_succ]
      refine wpL_take (i := 2) (oi := ⟨_, _, _, _, _, _⟩) (v := ?_) rfl (by kernel_rfl) (by kernel_rfl) (by kernel_rfl) (by kernel_rfl) (by kernel_rfl) (fun _ _ _ h => h) (Or.inl ⟨by rfl, ?_⟩) (by exact hH0) ?_
      rotate_left
      · (intro x hx; (try dsimp only at hx); go_simp; try (with_reducible rfl))
      try simp only [Act.put, List.setIfInBounds_toArray, List.set_cons_zero, List.set_cons_succ]
      refine wpL_take (i := 3) (oi := ⟨_, _, _, _, _, _⟩) (v := ?_) rfl (by kernel_rfl) (by kernel_rfl) (by kernel_rfl) (by kernel_rfl) (by kernel_rfl) (fun _ _ _ h => h) (Or.inl ⟨by rfl, ?_⟩) (by exact hH0) ?_
      rotate_left
      · (intro x hx; (try dsimp only at hx); go_simp; try (with_reducible rfl))
      try simp only [Act.put, List.setIfInBounds_toArray, List.set_cons_zero, List.set_cons_succ]
      refine wpL_take (i := 4) (oi := ⟨_, _, _, _, _, _⟩) (v := ?_) rfl (by kernel_rfl) (by kernel_rfl) (by kernel_rfl) (by kernel_rfl) (by kernel_rfl) (fun _ _ _ h => h) (Or.inl ⟨by rfl, ?_⟩) (by exact hH0) ?_
      rotate_left
      · (intro x hx; (try dsimp only at hx); go_simp; try (with_reducible rfl))
      try simp only [Act.put, List.setIfInBounds_toArray, List.set_cons_zero, List.set_cons_succ]
      refine wpL_ready (rs := [5]) (by kernel_rfl) (by simp) ?_
      refine eachL_cons (o := ⟨_, _, _, _, _, _⟩) rfl (by rfl) (fun K hK => ?_) ?_
      · skip
        go_simp
        refine (refOne_any _ _ _ ps f q gx gy fl kN aN _ (HP.out.kept (kt BV0.out (by repeat (first | with_reducible exact BC | with_reducible refine qDrew ?_ | with_reducible refine qAlloc ?_)))) HH.out E3.out HX.out hk14).mono ?_; rintro e w1 ⟨kd, r, ra, rb, k, rfl, eo, b1⟩; have EO := hid eo; replace BC := kt (Below.drew BC) b1; clear eo b1
        refine hK.out _ _ ?_ (fun hH1 => ?_)
        · (try dsimp only); first | (refine SA.out _ ?_; (repeat (first | with_reducible exact BC | with_reducible refine qDrew ?_ | with_reducible refine qAlloc ?_)); done) | exact ⟨(cellFrm (P.out.2.2 _ (by omega))).trans q0V.out, P.out.1.c2⟩
        clear hK K hH0
        try simp only [Act.put, List.setIfInBounds_toArray, List.set_cons_zero, List.set_cons_succ]
        refine wpL_ready (rs := [6]) (by kernel_rfl) (by simp) ?_
        refine eachL_cons (o := ⟨_, _, _, _, _, _⟩) rfl (by rfl) (fun K hK => ?_) ?_
        · skip
          go_simp
          refine hK.out _ _ ?_ (fun hH2 => ?_)
          · (try dsimp only); first | (refine SA.out _ ?_; (repeat (first | with_reducible exact BC | with_reducible refine qDrew ?_ | with_reducible refine qAlloc ?_)); done) | exact ⟨(cellFrm (P.out.2.2 _ (by omega))).trans q0V.out, P.out.1.c2⟩
          clear hK K hH1
          try simp only [Act.put, List.setIfInBounds_toArray, List.set_cons_zero, List.set_cons_succ]
          refine wpL_ready (rs := [7]) (by kernel_rfl) (by simp) ?_
          refine eachL_cons (o := ⟨_, _, _, _, _, _⟩) rfl (by rfl) (fun K hK => ?_) ?_
          · skip
            refine step_append_lies _ rfl (.tmp 100) (.tmp 105) 25 rfl 0 42 i0 (.agg #[.int .i64 0, .int .i64 0, .int .i64 0, .int .i64 0, .int .i64 0, .slice none 0 0, .int .i64 0, .int .i64 0, .int .i64 0]) 9 88 Tryz.underlying25 hi hz0 hz1 hz2 rfl (by decide) (.slice va q vc) q t.flatten (by simp [Act.eval]) (owns_kept HRW.out (by repeat (first | with_reducible exact BC | with_reducible refine qDrew ?_ | with_reducible refine qAlloc ?_))) ⟨w1.heap.size, 0, none⟩ 1 1 [.int .i64 kd, .int .i64 r, .int .i64 ra, .int .i64 rb, .int .i64 k, .slice none 0 0, .int .i64 1, .int .i64 0, .int .i64 (q : Int)] (by simp [Act.eval]) rfl (news_of (by simp) _ 42) (by intro u hu; simp at hu; rcases hu with rfl | rfl | rfl | rfl | rfl | rfl | rfl | rfl | rfl <;> rfl) (by decide) (by unfold maxLen; omega) (by omega) (Nat.zero_le _) (w1.heap.size + 1) (by simp) ?_; intro g cap w6 ho6 hg6 hat hlt6; have L4 := hid (show Below V0.heap.size V0 (w1.alloc (.cells #[.int .i64 kd, .int .i64 r, .int .i64 ra, .int .i64 rb, .int .i64 k, .slice none 0 0, .int .i64 1, .int .i64 0, .int .i64 (q : Int)] 42)) from by repeat (first | with_reducible exact BC | with_reducible refine qDrew ?_ | with_reducible refine qAlloc ?_)); have OX := hid (ir_owns (kd := kd) (r := r) (ra := ra) (rb := rb) (k := k) (cost := 1) (mt := 0) (ip := (q : Int)) (OSl.nil layI 3 8 (w1.alloc (.cells #[.int .i64 kd, .int .i64 r, .int .i64 ra, .int .i64 rb, .int .i64 k, .slice none 0 0, .int .i64 1, .int .i64 0, .int .i64 (q : Int)] 42)) (fun _ => False))); have P := hid (And.intro (OutC.grown OCV.out SN.out hg6 L4.out (by omega)) (And.intro (SN.out.snoc (bytes := 88) HQ.out (by omega) ho6 hg6 (by simpa using hat) L4.out OX.out (fun b hb => hb.elim)) (fun b (hb : b < (X.heap.size + 1 + 1) + 1) => SN.out.frm hg6 L4.out (b := b) (by omega) (by omega)))); obtain ⟨d2, df2⟩ := And.intro P.out.1.c2 P.out.1.f2; have hs6 := hg6.size; have B6 := hid (And.intro hg6.os (And.intro hg6.tape (And.intro hg6.output hg6.size))); clear ho6 hg6 hat hlt6
            refine hK.out _ _ ?_ (fun hH3 => ?_)
            · (try dsimp only); first | (refine SA.out _ ?_; (repeat (first | with_reducible exact BC | with_reducible refine qDrew ?_ | with_reducible refine qAlloc ?_)); done) | exact ⟨(cellFrm (P.out.2.2 _ (by omega))).trans q0V.out, P.out.1.c2⟩
            clear hK K hH2
            try simp only [Act.put, List.setIfInBounds_toArray, List.set_cons_zero, List.set_cons_succ]
            refine wpL_take (i := 8) (oi := ⟨_, _, _, _, _, _⟩) (v := ?_) rfl (by kernel_rfl) (by kernel_rfl) (by kernel_rfl) (by kernel_rfl) (by kernel_rfl) (fun _ _ _ h => h) (Or.inl ⟨by rfl, ?_⟩) (by exact hH3) ?_
            rotate_left
            · (intro x hx; (try dsimp only at hx); go_simp; try (with_reducible rfl))
            try simp only [Act.put, List.setIfInBounds_toArray, List.set_cons_zero, List.set_cons_succ]
            refine wpL_ready (rs := [9]) (by kernel_rfl) (by simp) ?_
            refine eachL_last (o := ⟨_, _, _, _, _, _⟩) rfl (fun K hK => ?_)
            go_simp
            refine hK.out _ _ ?_ ?_
            · (try dsimp only); exact cell_set_far ((cellFrm (P.out.2.2 _ (by omega))).trans q0V.out) (by simp; omega)
            clear hK K
            try simp only [Act.put, List.setIfInBounds_toArray, List.set_cons_zero, List.set_cons_succ]
            refine wpL_done (by kernel_rfl) ?_ _
            go_wp2_with fail
            go_roundw
            case rel =>
              refine ⟨q + 1, _, _, _, pl.set q (q : Int), by omega, by go_num, P.out.1.set2, ?_, ?_, ?_, ?_, ?_, (RS0.out.frm (P.out.2.2 (w.heap.size + 1) (by omega))).frm (Below.heap_setCell _ _ _ _ (by first | (simp; done) | (simp; omega))), ?_⟩
              · rw [List.take_add_one, lowS_at HX.out, EO.out]
                exact (P.out.2.1.sub (fun b hb _ => by rcases hb with hb | hb; exact hb; show (X.heap.size + 1 + 1) < b; omega)).set _ _ (by first | (simp; done) | (simp; omega))
              · exact (PS.out.frm (P.out.2.2 (X.heap.size + 1 + 1) (by omega))).setFar (by first | (simp; done) | (simp; omega))
              · exact cell_set_far ((cellFrm (P.out.2.2 _ (by omega))).trans q0V.out) (by first | (simp; done) | (simp; omega))
              · exact cell_set_far ((cellFrm (P.out.2.2 _ (by omega))).trans f1V.out) (by first | (simp; done) | (simp; omega))
              · exact cell_set_far ((cellFrm (P.out.2.2 _ (by omega))).trans f2V.out) (by first | (simp; done) | (simp; omega))
              · exact Below.setCell (BW.out.trans ⟨B6.out.1.trans L4.out.os, B6.out.2.1.trans L4.out.tape, B6.out.2.2.1.trans L4.out.output, by have := L4.out.size; omega, fun b hb => P.out.2.2 b (by omega)⟩) (by first | (simp; done) | (simp; omega)) _
            case measure => simp [intOf]; omega
          exact eachL_nil
        exact eachL_nil
      exact eachL_nil
    · have hqn : q = gn := by omega
      subst hqn
      have OCD : Hid (OSl layIr 42 88 V (fun b => (X.heap.size + 1 + 1) < b) (.slice va vn vc) (lowS ps f gy fl)) := hid (by
        have o := HO.out
        rwa [List.take_of_length_le (by rw [lowS_len]; have := LG.out; omega)] at o)
      obtain ⟨va', vn', vc', ev, SLV⟩ := OCD.out.reads
      cases ev
      have HSL := hid SLV
      have hvl := SLV.len
      have hvn : vn ≤ 64 := by rw [hvl, lowS_len]; have := LG.out; omega
      have hvr := SLV.room
      have hvc := SLV.cap
      clear hq ps1 p0 f1 ho hb SLV hvl
      obtain ⟨c0, c1, c2, c3, cf2, cf3⟩ := oc
      go_wp2_with fail
      clear f2 hlt
      go_loopw [11] (fun i wr => ∃ j : Nat, j ≤ vn ∧ i = .int .i64 j ∧ wr = V) (fun i _ => vn - (intOf i).toNat)
      case atStart => exact ⟨0, Nat.zero_le _, rfl, rfl⟩
      case round =>
        obtain ⟨j, hj, rfl, rfl⟩ := hrel
        by_cases hlt : j < vn
        · obtain ⟨bj, oj, kd, r, ra, rb, k, xa, xn, xc, args, cost, mt, ip, rfl, hx, e0, -, -, -, -, -, -, -, -, -⟩ := ir_at HSL.out j hlt
          have hjn : j < fl.length := by have := HSL.out.len; rw [lowS_len] at this; omega
          have hxx := lowS_at (ps := ps) (f := f) (gy := gy) (List.getElem?_eq_getElem hjn)
          rw [hx] at hxx
          obtain ⟨-, h12, h13, -⟩ := HS.out j fl[j].1 fl[j].2 (List.getElem?_eq_getElem hjn)
          have hk := one_kind (ps := ps) (T := gy + heightV ps (f : Int) (j : Int)) (pc := (j : Int)) (A := fl[j].2) h12 h13
          have hkd : kd = (oneV ps (gy + heightV ps (f : Int) (j : Int)) (j : Int) fl[j]).1 := congrArg (fun x => x.1) (Option.some.inj hxx)
          have g4 : (kd == 4) = false := by rw [hkd]; simpa using hk.1
          have g5 : (kd == 5) = false := by rw [hkd]; simpa using hk.2
          clear hxx hx hk hkd h12 h13
          go_wp2_with fail
          go_roundw
          case rel => exact ⟨j + 1, by omega, by go_num, by first | rfl | trivial⟩
          case measure => simp [intOf]; omega
        · obtain ⟨r0, r1, r2, r3, rf⟩ := RS.out
          go_wp2_with fail
          refine bodyPost_ret (v := .tuple #[.agg #[.int .i64 (f : Int), .int .i64 (gy + 8), .slice va vn vc, .slice none 0 0], .int .i64 0]) (by simp [results, Tryz.results27, go_sem, r0, r1, r2, r3]) rfl ⟨_, rfl, ?_, ?_⟩
          · refine OSl.sub (B := fun b => (X.heap.size + 1 + 1) < b) ?_ (fun b hb _ => by have h : X.heap.size + 1 + 1 < b := hb; have := hWX.out; show w.heap.size ≤ b; omega)
            repeat (first | exact OCD.out | refine OSl.set ?_ _ _ (by have := hWX.out; show ¬ (X.heap.size + 1 + 1 < w.heap.size + 1); omega))
          · repeat (first | exact HB.out | refine Below.setCell ?_ (by simp) _)

end Go.Proofs.YtfnfbebkeoilfaaGreatDoor
