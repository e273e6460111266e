/- For any program and any integer the law FlowClosed returns true: what flow.Reached tells is the first pc and what flow.Next tells of what is reached, nothing else; no conditions. -/
import Derived.Test.YtclpnmideableaaRows
import Derived.WalkKit
import Derived.ProofKit
import Derived.OpenShut
import Derived.ShutString
import Derived.ChangeOld
import Derived.Below
import Derived.Carry
import Derived.Lib.SmallJoins
import Derived.Handy
import Derived.WalkSmall
import Derived.SizedLaws
import Derived.Test.YtclpnmideableaaOpen
import Derived.Test.YtclpnmideableaaAwake4
import Derived.Deep.RegionWith
namespace Go.Proofs.Ytclpnmideableaa.flowClosed
open Go.ChangeShapes Go.WideShapes Go.ChangeAt Go.RowKit
open Go.ChangeMaps (open_string shut_string)
set_option linter.unusedVariables false

theorem own : ownKnob Try.prog.godebug = none := by kernel_rfl
theorem laidOut : laidOutB Try.prog = true := by kernel_rfl

/-- What the law has gathered: pcs that a reached one below i leads to, and those of xs, if i is reached. -/
def Fr (l : List (Int × Int)) (bs : List Bool) (i : Nat) (xs : List Int) (fr : List Bool) : Prop :=
  fr.length = l.length ∧ ∀ q : Nat, q < l.length → (fr.getD q false = true ↔ q = 0 ∨ (∃ p : Nat, p < i ∧ bs.getD p false = true ∧ (q : Int) ∈ nextL l p) ∨ (bs.getD i false = true ∧ (q : Int) ∈ xs))
theorem Fr.start {l : List (Int × Int)} {bs : List Bool} (hl : 0 < l.length) : Fr l bs 0 [] ((List.replicate l.length false).set 0 true) := by
  refine ⟨by simp, fun q hq => ?_⟩
  rw [getD_set_b]
  constructor
  · intro h
    split at h
    · rename_i hc; exact .inl hc.1.symm
    · simp [List.getD_eq_getElem?_getD, hq] at h
  · rintro (h | ⟨p, hp, _⟩ | ⟨_, h⟩)
    · rw [if_pos ⟨h.symm, by simpa using hq⟩]
    · omega
    · cases h
theorem getD_set_any (bs : List Bool) (i j : Nat) (b : Bool) : (bs.set i b).getD j false = if i = j ∧ j < bs.length then b else bs.getD j false := by
  simp only [List.getD_eq_getElem?_getD, List.getElem?_set]
  by_cases h : i = j
  · subst h
    by_cases h2 : i < bs.length
    · simp [h2]
    · simp [h2]
  · simp [h]
theorem Fr.step {l : List (Int × Int)} {bs fr : List Bool} {i q0 : Nat} {xs : List Int} (h : Fr l bs i xs fr) (hq0 : q0 < l.length) : Fr l bs i (xs ++ [(q0 : Int)]) (fr.set q0 (fr.getD q0 false || bs.getD i false)) := by
  refine ⟨by simpa using h.1, fun q hq => ?_⟩
  rw [getD_set_any]
  have hh := h.2 q hq
  by_cases e : q0 = q
  · subst e
    rw [if_pos ⟨rfl, by rw [h.1]; exact hq⟩, Bool.or_eq_true, hh]
    constructor
    · rintro ((h1 | h1 | h1) | h1)
      · exact .inl h1
      · exact .inr (.inl h1)
      · exact .inr (.inr ⟨h1.1, by simp [h1.2]⟩)
      · exact .inr (.inr ⟨h1, by simp⟩)
    · rintro (h1 | h1 | h1)
      · exact .inl (.inl h1)
      · exact .inl (.inr (.inl h1))
      · exact .inr h1.1
  · rw [if_neg (fun h => e h.1), hh]
    constructor
    · rintro (h1 | h1 | h1)
      · exact .inl h1
      · exact .inr (.inl h1)
      · exact .inr (.inr ⟨h1.1, by simp [h1.2]⟩)
    · rintro (h1 | h1 | ⟨h1, h2⟩)
      · exact .inl h1
      · exact .inr (.inl h1)
      · rcases List.mem_append.1 h2 with h3 | h3
        · exact .inr (.inr ⟨h1, h3⟩)
        · simp at h3; omega
theorem Fr.next {l : List (Int × Int)} {bs fr : List Bool} {i : Nat} (h : Fr l bs i (nextL l i) fr) : Fr l bs (i + 1) [] fr := by
  refine ⟨h.1, fun q hq => ?_⟩
  rw [h.2 q hq]
  constructor
  · rintro (h1 | ⟨p, h1, h2⟩ | h1)
    · exact .inl h1
    · exact .inr (.inl ⟨p, by omega, h2⟩)
    · exact .inr (.inl ⟨i, by omega, h1⟩)
  · rintro (h1 | ⟨p, h1, h2⟩ | ⟨_, h1⟩)
    · exact .inl h1
    · rcases Nat.lt_or_ge p i with h3 | h3
      · exact .inr (.inl ⟨p, h3, h2⟩)
      · have : p = i := by omega
        subst this
        exact .inr (.inr h2)
    · cases h1
theorem Fr.done {l : List (Int × Int)} {bs fr : List Bool} (h : Fr l bs l.length [] fr) (hm : Marked l bs) : fr = bs := by
  refine list_ext_b (h.1.trans hm.1.symm) (fun q hq => ?_)
  have hq' : q < l.length := by rw [← h.1]; exact hq
  rw [h.2 q hq', hm.2 q hq']
  constructor
  · rintro (h1 | ⟨p, h1, h2, h3⟩ | ⟨_, h1⟩)
    · rw [h1]; exact Reach.zero l
    · exact ((hm.2 p h1).1 h2).step h3
    · cases h1
  · intro hr
    rcases hr.cases with h1 | ⟨p, h1, h2⟩
    · exact .inl h1
    · have hp := h1.lt (by omega)
      exact .inr (.inl ⟨p, hp, (hm.2 p hp).2 h1, h2⟩)
theorem bools_set_any (xs : List Bool) (i : Nat) (b : Bool) : (bools xs).set i (.bool b) = bools (xs.set i b) := by simp [bools, List.map_set]
theorem mark_putb {w : World} {g n base : Nat} {bs : List Bool} (h : MarkSt w g n base bs) (i : Nat) (b : Bool) : MarkSt (w.setCell ⟨g, i, none⟩ (.bool b)) g n base (bs.set i b) := by
  refine ⟨by simpa using h.len, ?_⟩
  have := (h.row.stored i (.bool b)).1
  rw [bools_set_any] at this
  exact this
/-- What is marked leads to what is marked. -/
theorem marked_closed {l : List (Int × Int)} {bs : List Bool} (hm : Marked l bs) {p q : Nat} (hp : bs.getD p false = true) (hq : (q : Int) ∈ nextL l p) : bs.getD q false = true := by
  have hq' := nextL_in _ hq
  have hp' : p < l.length := by have := getD_true_lt hp; rw [hm.1] at this; exact this
  exact (hm.2 q (by omega)).2 (((hm.2 p hp').1 hp).step hq)

set_option maxRecDepth 100000 in
set_option maxHeartbeats 20000000 in
theorem walk (a0 : Option Addr) (n0 c0 : Nat) (l0 : List Fn) (a1 : Int) (w : World) (w0 : Fns w a0 n0 c0 l0) (w1 : (Lit.int .i64 a1).wf = true) :
    Calls Try.prog 4 #[.agg #[.slice a0 n0 c0], .int .i64 a1] w fun e w' => e = .returned (.bool true) ∧ Below w.heap.size w w' := by
  clear w1
  have L0 := hid w0.len
  have hr0 := w0.room
  have hc0 := w0.cap
  go_enter Try.func4, Try.ntmps4
  go_wp2_with fail
  refine (awake4_any _).mono ?_
  rintro e u0 ⟨rfl, bb⟩
  have B0 : Hid (Below w.heap.size w u0) := hid (kt (by go_grown) bb)
  have p0 := kept_cell bb (b := w.heap.size) (o := 0) (v := .slice a0 n0 c0) (by simp [go_sem])
  have hw0 : w.heap.size < u0.heap.size := lt_of_cell p0
  clear bb
  by_cases hn0 : n0 = 0
  · subst hn0
    go_wp2_with fail
    go_ret
    exact ⟨rfl, B0.out⟩
  have hn1 : ((n0 : Int) == 0) = false := by simp; omega
  obtain ⟨hk0, hk1⟩ := umod_bd a1 (n0 : Int) (by omega)
  generalize hkk : (IntKind.u64.wrap a1).tmod (n0 : Int) = kk at hk0 hk1
  obtain ⟨k, rfl⟩ := Int.eq_ofNat_of_zero_le hk0
  have hkn : k < n0 := by omega
  obtain ⟨b0, o0, x, y, a3, n3, c3, l3, rfl, e3, d0, d1, d2, i3⟩ := (w0.kept B0.out).at k hkn
  have z0 := World.new_ne _ _ d0
  have zl := lt_of_cell d0
  have I3 := hid i3
  clear e3 i3 w0
  go_wp2_with fail
  go_region
  have FV : Hid (FB (u0.alloc (.cells #[.int .i64 x, .int .i64 y, .slice a3 n3 c3] 28)).drew u0.heap.size x y (.slice a3 n3 c3)) := hid ⟨by simp [go_sem], by simp [go_sem], by simp [go_sem]⟩
  have BV : Hid (Below w.heap.size w (u0.alloc (.cells #[.int .i64 x, .int .i64 y, .slice a3 n3 c3] 28)).drew) := hid (kt B0.out (Below.drew (Below.alloc (Below.refl _ _) (Nat.le_refl _) _)))
  have IV : Hid (Inss (u0.alloc (.cells #[.int .i64 x, .int .i64 y, .slice a3 n3 c3] 28)).drew a3 n3 c3 l3) := hid (I3.out.kept (Below.drew (Below.alloc (Below.refl _ _) (Nat.le_refl _) _)))
  have SV : Hid ((u0.alloc (.cells #[.int .i64 x, .int .i64 y, .slice a3 n3 c3] 28)).drew.heap.size = u0.heap.size + 1) := hid (by simp)
  generalize hV : (u0.alloc (.cells #[.int .i64 x, .int .i64 y, .slice a3 n3 c3] 28)).drew = V at *
  clear hV I3 d0 d1 d2 z0 zl p0
  obtain ⟨x0, x1, x2⟩ := FV.out
  go_wp2_with fail
  refine (reached_any x y _ n3 c3 l3 V IV.out).mono ?_
  rintro e v1 ⟨vr, br, rfl, rr, orr, b1⟩
  have C1 := hid b1
  have RR := hid rr
  have OR := hid orr
  clear rr orr b1 x0 x1 x2
  have L3 := hid IV.out.len
  have hcc := IV.out.cap
  have hrr := IV.out.room
  cases hcb : codeB l3
  · rcases RR.out with ⟨h, _⟩ | ⟨_, rfl⟩
    · rw [hcb] at h; cases h
    rw [show cE l3 = 400 by simp [cE, hcb]]
    obtain ⟨ar, nr, cr, rfl, ir⟩ := bools_of_owns OR.out (by simp)
    have : nr = 0 := ir.len
    subst this
    clear ir
    go_wp2_with (first | (go_at_call 16; refine (num_any _ _).mono ?_; rintro e w' ⟨rfl, hw⟩; rw [hw]; clear hw))
    go_ret
    exact ⟨rfl, kt BV.out C1.out⟩
  rcases RR.out with ⟨_, hM⟩ | ⟨h, _⟩
  rotate_left
  · rw [hcb] at h; cases h
  rw [show cE l3 = 0 by simp [cE, hcb]]
  have HM := hid hM
  have HC := hid hcb
  have hlen : 1 ≤ n3 ∧ n3 ≤ 64 := by rw [L3.out]; simp [codeB] at hcb; exact hcb.1
  have hbl : br.length = n3 := by rw [hM.1, L3.out]
  have OR' : Hid (v1.ownsRow V.heap.size 4 1 vr n3 (bools br)) := hid (by have := OR.out; rw [hbl] at this; exact this)
  obtain ⟨gr, cr, rfl, hg1, hg2⟩ := OR'.out.form (by omega)
  have hcr : n3 ≤ cr := cap_of OR'.out
  have hr00 : v1.cell? ⟨gr, 0, none⟩ = some (.bool true) := by
    rw [OR'.out.cellAt 0 (by omega), bools_at br 0 (by omega), (hM.2 0 (by have := L3.out; omega)).2 (Reach.zero _)]
  obtain ⟨x0, x1, x2⟩ := FV.out.kept C1.out
  have hmk := run_make_row' (P := Try.prog) 37 4 (.bool false) 1 Try.underlying37 Try.infoBool rfl .i64 .i64 n3 (by omega) (by omega)
  have st0 := MarkSt.make v1 n3 V.heap.size C1.out.size (by unfold maxLen; omega)
  have c0 := st0.at 0 (by omega)
  have f0 := st0.free 0
  have EQ : (v1.alloc (.cells (madeCells #[.bool false] n3) 4)).setCell ⟨v1.heap.size, 0, none⟩ (.bool true) = v1.alloc (.cells ((madeCells #[.bool false] n3).setIfInBounds 0 (.bool true)) 4) := by simp [go_sem]
  have S0 : Hid (MarkSt (v1.alloc (.cells ((madeCells #[.bool false] n3).setIfInBounds 0 (.bool true)) 4)) v1.heap.size n3 V.heap.size ((List.replicate l3.length false).set 0 true)) := hid (by rw [← EQ, ← L3.out]; exact st0.put 0)
  have hA : Below v1.heap.size v1 (v1.alloc (.cells ((madeCells #[.bool false] n3).setIfInBounds 0 (.bool true)) 4)) := Below.alloc (Below.refl _ _) (Nat.le_refl _) _
  have C2 := hid (kt C1.out hA)
  have OR2 := hid (owns_kept OR'.out hA)
  clear st0 EQ hA hM hcb OR RR
  have sV := SV.out
  have FW0 := hid (FV.out.kept C2.out)
  go_wp2_with (first | (go_at_call 16; refine (num_any _ _).mono ?_; rintro e w' ⟨rfl, hw⟩; rw [hw]; clear hw))
  go_loopw [9] (fun s wr => ∃ i : Nat, i ≤ n3 ∧ s = .int .i64 i ∧ ∃ fr, MarkSt wr v1.heap.size n3 V.heap.size fr ∧ Fr l3 br i [] fr ∧ FB wr u0.heap.size x y (.slice a3 n3 c3) ∧ wr.ownsRow V.heap.size 4 1 (.slice (some ⟨gr, 0, none⟩) n3 cr) n3 (bools br) ∧ Below V.heap.size V wr) (fun s _ => n3 - (intOf s).toNat)
  case atStart => exact ⟨0, Nat.zero_le _, rfl, _, S0.out, Fr.start (by have := L3.out; omega), FW0.out, OR2.out, C2.out⟩
  case round =>
    clear S0 FW0 OR2 c0 f0 x0 x1 x2 hr00 hmk
    obtain ⟨i, hi, rfl, fr, ms, hfr, fb, orr, hb⟩ := hrel
    by_cases hlt : i < n3
    rotate_left
    · have hin : i = n3 := by omega
      subst hin
      have E : fr = br := Fr.done (by rw [← L3.out]; exact hfr) HM.out
      subst E
      have I1 : Bools wr (some ⟨v1.heap.size, 0, none⟩) i i fr := by
        obtain ⟨_, _, _, e, h⟩ := bools_of_owns (w := wr) (l := fr) (by rw [ms.len]; exact ms.row) (by rw [ms.len]; omega)
        cases e; exact h
      have I2 : Bools wr (some ⟨gr, 0, none⟩) i cr fr := by
        obtain ⟨_, _, _, e, h⟩ := bools_of_owns (w := wr) (l := fr) (by rw [ms.len]; exact orr) (by rw [ms.len]; omega)
        cases e; exact h
      have H := hid (And.intro I1 I2)
      clear I1 I2 ms hfr fb orr
      go_wp2_with fail
      refine (sameBools_any _ _ _ _ _ _ fr fr _ H.out.1 H.out.2).mono ?_
      rintro e w9 ⟨rfl, b9⟩
      rw [decide_eq_true rfl]
      go_wp2_with fail
      go_ret
      exact ⟨rfl, kt (kt BV.out hb) b9⟩
    · have MS := hid ms
      have HF := hid hfr
      have OO := hid orr
      obtain ⟨x0, x1, x2⟩ := fb
      have FBh : Hid (FB wr u0.heap.size x y (.slice a3 n3 c3)) := hid ⟨x0, x1, x2⟩
      have hglt := ms.lt
      have hNE : nxE l3 (i : Int) = 0 ∧ nxL l3 (i : Int) = nextL l3 i := by
        have : nxOk l3 (i : Int) = true := by rw [nxOk, HC.out, show inB l3.length (i : Int) = true by simp [inB]; have := L3.out; omega]; rfl
        exact ⟨by simp [nxE, this], by simp [nxL, this]⟩
      clear ms hfr orr
      go_wp2_with fail
      refine (flowNext_any x y i _ n3 c3 l3 wr (IV.out.kept hb)).mono ?_
      rintro e w2 ⟨vn, rfl, on, b2⟩
      rw [hNE.1]
      rw [hNE.2] at on
      clear hNE x0 x1 x2
      have XI : Hid (∀ z ∈ nextL l3 i, 0 ≤ z ∧ z < n3) := hid (fun z hz => by have := nextL_in z hz; have := L3.out; omega)
      have XL := hid (nextL_len l3 i)
      have XC : Hid (br.getD i false = true → ∀ q : Nat, (q : Int) ∈ nextL l3 i → br.getD q false = true) := hid (fun hp q hq => marked_closed HM.out hp hq)
      have XN : Hid (∀ fr, Fr l3 br i (nextL l3 i) fr → Fr l3 br (i + 1) [] fr) := hid (fun fr h => h.next)
      generalize hxs : nextL l3 i = xs at *
      clear hxs
      obtain ⟨an, nn, cn, rfl, iN⟩ := ints_of_owns on (by have := XL.out; omega)
      have hnn : Hid (nn = xs.length) := hid iN.len
      have hcn := iN.cap
      have hrn := iN.room
      have s2 := b2.size
      obtain ⟨HW, hHW⟩ : ∃ HW, HW = wr.heap.size := ⟨_, rfl⟩
      rw [← hHW] at on
      have HWl : v1.heap.size < HW ∧ u0.heap.size < HW := by rw [hHW]; exact ⟨hglt.2, lt_of_cell FBh.out.1⟩
      clear hHW
      have M2 := hid (MS.out.kept b2)
      have F2 := hid (FBh.out.kept b2)
      have O2 := hid (owns_kept OO.out b2)
      have B2 := hid (kt hb b2)
      have ON := hid on
      clear on iN b2
      go_wp2_with (first | (go_at_call 16; refine (num_any _ _).mono ?_; rintro e w' ⟨rfl, hw⟩; rw [hw]; clear hw))
      go_loopw [12] (fun s wq => ∃ j : Nat, j ≤ nn ∧ s = .int .i64 j ∧ ∃ fr, MarkSt wq v1.heap.size n3 V.heap.size fr ∧ Fr l3 br i (xs.take j) fr ∧ FB wq u0.heap.size x y (.slice a3 n3 c3) ∧ wq.ownsRow V.heap.size 4 1 (.slice (some ⟨gr, 0, none⟩) n3 cr) n3 (bools br) ∧ wq.ownsRow HW 3 1 (.slice an nn cn) xs.length (ints xs) ∧ Below V.heap.size V wq) (fun s _ => nn - (intOf s).toNat)
      case atStart => exact ⟨0, Nat.zero_le _, rfl, fr, M2.out, HF.out, F2.out, O2.out, ON.out, B2.out⟩
      case round =>
        clear M2 F2 O2 B2 ON MS HF OO FBh
        obtain ⟨j, hj, rfl, fr2, ms, hfr, fb, orr, on, hb2⟩ := hrel
        by_cases hlj : j < nn
        rotate_left
        · have hjn : j = nn := by omega
          subst hjn
          rw [List.take_of_length_le (by have := hnn.out; omega)] at hfr
          have R := hid (And.intro ms (And.intro (XN.out _ hfr) (And.intro fb orr)))
          clear ms hfr fb orr on
          go_wp2_with fail
          go_roundw
          case rel => exact ⟨i + 1, by omega, by go_num, fr2, R.out.1, R.out.2.1, R.out.2.2.1, R.out.2.2.2, hb2⟩
          case measure => simp [intOf]; omega
        · obtain ⟨_, _, _, e1, I1⟩ := ints_of_owns on (by have := XL.out; omega)
          cases e1
          obtain ⟨gn, cn', e2, hgn, _⟩ := on.form (by have := hnn.out; omega)
          cases e2
          have cX := on.cellAt j (by have := hnn.out; omega)
          rw [ints_at xs j (by have := hnn.out; omega)] at cX
          have hmem : xs.getD j 0 ∈ xs := by have := hnn.out; simp [List.getD_eq_getElem?_getD, show j < xs.length by omega]
          have hrg := XI.out _ hmem
          obtain ⟨q, hq⟩ : ∃ q : Nat, xs.getD j 0 = q := ⟨(xs.getD j 0).toNat, by omega⟩
          rw [hq] at cX hrg hmem
          have hqn : q < n3 := by omega
          have cF := ms.at q hqn
          have fF := ms.free q
          have cI := orr.cellAt i (by omega)
          rw [bools_at br i (by omega)] at cI
          have cQ := orr.cellAt q (by omega)
          rw [bools_at br q (by omega)] at cQ
          have XQ : Hid (br.getD i false = true → br.getD q false = true) := hid (fun h => XC.out h q hmem)
          have TK := hid (take_snoc_getD (l := xs) (q := j) (d := 0) (by have := hnn.out; omega) hq)
          have ST : Hid (Fr l3 br i (xs.take j ++ [(q : Int)]) (fr2.set q (fr2.getD q false || br.getD i false))) := hid (hfr.step (by have := L3.out; omega))
          have R := hid (And.intro ms (And.intro fb (And.intro orr on)))
          have hnn' := hnn.out
          clear ms hfr fb orr on hq hmem hrg I1
          generalize hbi : br.getD i false = bi at *
          generalize hbq : br.getD q false = bq at *
          generalize hfq : fr2.getD q false = fq at *
          clear hbi hbq hfq
          have FIN : Hid (MarkSt ((wr.setCell ⟨v1.heap.size, q, none⟩ (.bool (fq || bi))).drew) v1.heap.size n3 V.heap.size (fr2.set q (fq || bi)) ∧ FB ((wr.setCell ⟨v1.heap.size, q, none⟩ (.bool (fq || bi))).drew) u0.heap.size x y (.slice a3 n3 c3) ∧ ((wr.setCell ⟨v1.heap.size, q, none⟩ (.bool (fq || bi))).drew).ownsRow V.heap.size 4 1 (.slice (some ⟨gr, 0, none⟩) n3 cr) n3 (bools br) ∧ ((wr.setCell ⟨v1.heap.size, q, none⟩ (.bool (fq || bi))).drew).ownsRow HW 3 1 (.slice (some ⟨gn, 0, none⟩) xs.length cn) xs.length (ints xs) ∧ Below V.heap.size V ((wr.setCell ⟨v1.heap.size, q, none⟩ (.bool (fq || bi))).drew)) := hid (by
            obtain ⟨r1, r2, r3, r4⟩ := R.out
            have hf : Frm (fun k => k = v1.heap.size) wr ((wr.setCell ⟨v1.heap.size, q, none⟩ (.bool (fq || bi))).drew) := (Frm.set (S := fun k => k = v1.heap.size) (p := ⟨v1.heap.size, q, none⟩) _ rfl).trans (Frm.of_below (S := fun k => k = v1.heap.size) (Below.drew (Below.refl _ _))) (fun _ _ h => h)
            have hC1 := C1.out.size
            refine ⟨(mark_putb r1 q (fq || bi)).kept (Below.drew (Below.refl _ _)), ⟨hf.cell r2.1 (by omega), hf.cell r2.2.1 (by omega), hf.cell r2.2.2 (by omega)⟩, hf.owns r3 (fun k hk => by have e : gr = k := Option.some.inj hk; omega), hf.owns r4 (fun k hk => by have e : gn = k := Option.some.inj hk; omega), hb2.trans (hf.below hb2.size (fun k hk => by omega))⟩)
          clear hnn'
          cases bi
          · cases fq
            all_goals
              · go_wp2_with fail
                go_region
                go_wp2_with fail
                go_roundw
                case rel => exact ⟨j + 1, by omega, by go_num, _, FIN.out.1, by rw [TK.out]; exact ST.out, FIN.out.2.1, FIN.out.2.2.1, FIN.out.2.2.2.1, FIN.out.2.2.2.2⟩
                case measure => simp [intOf]; omega
          · have hbq := XQ.out rfl
            subst hbq
            cases fq
            all_goals
              · go_wp2_with fail
                go_region
                go_wp2_with fail
                go_roundw
                case rel => exact ⟨j + 1, by omega, by go_num, _, FIN.out.1, by rw [TK.out]; exact ST.out, FIN.out.2.1, FIN.out.2.2.1, FIN.out.2.2.2.1, FIN.out.2.2.2.2⟩
                case measure => simp [intOf]; omega

set_option maxRecDepth 100000 in
theorem lifted (os : Os) (started : os.Started) (H : Type) (enc : TypeId × Value → H) :
    ReturnsInHanded {} Try.checked os 4 .any (Rows.flowClosedSpec.pre6 enc Try.prog Try.f4 Rows.flowClosedRow.domain false) (Rows.flowClosedSpec.post enc Try.prog Try.f4 false true false false) := by
  refine returnsInHanded_of_change_sized (C := Try.checked) own started (by kernel_rfl) Try.func4
    (ChangeSpec.witness6 (enc := enc) (C := Try.checked) false ⟨#[], #[.agg #[.slice none 0 0], .int .i64 0], []⟩ 8 (by kernel_rfl) (by kernel_rfl) (by kernel_rfl) (by kernel_rfl)) ?_
  intro W base args ds gs before hval0 hW hcnd hsz0 _
  have hval : ∀ (j : Nat) t v, Try.f4.params[j]? = some t → args[j]? = some v → Value.okWide Try.prog W .any base t v := hval0
  have hW' := hW
  obtain ⟨p, q, hA0, hV, rfl, hfz, hnd⟩ := hW
  have hA : DataW.TrodAll enc Try.prog W 0 (fun _ => true) true Try.f4.params.toList args.toList ds p := hA0
  have hsz : (DataW.weightsEach Try.prog (Try.f4.params.toList ++ Rows.flowClosedSpec.plain.varTypes Try.prog) (ds ++ gs)).all (· ≤ reachBytes) = true := hsz0
  rw [Try.params4] at hA hval hsz
  obtain ⟨v0, vs0, d0, ds0, p0, q0, hargs, rfl, rfl, h0, r0⟩ := trodAll_cons hA
  obtain ⟨v1, vs1, d1, ds1, p1, q1, rfl, rfl, rfl, h1, r1⟩ := trodAll_cons r0
  obtain ⟨rfl, rfl, rfl⟩ := trodAll_nil r1
  obtain rfl : args = #[v0, v1] := by cases args; simp_all
  obtain ⟨rfl, rfl⟩ := trodVars_none hV
  have k0 := h0
  have lt0 : ∀ x ∈ p0, x.block < W.heap.size := by obtain ⟨m, hm⟩ := k0; exact DataW.trod_lt m _ _ _ hm
  have k1 := h1
  have lt1 : ∀ x ∈ p1, x.block < W.heap.size := by obtain ⟨m, hm⟩ := k1; exact DataW.trod_lt m _ _ _ hm
  obtain ⟨a0, n0, c0, l0, rfl, w0⟩ := open_program (hval 0 24 v0 rfl rfl) h0 (fun k hk => by simpa using List.all_eq_true.1 hsz k (DataW.weights_mem_each (j := 0) rfl rfl k hk))
  obtain ⟨a1, rfl, rfl, rfl, w1⟩ := open_int Try.underlying3 (hval 1 3 v1 rfl rfl) h1
  clear hA0 hval0
  refine (walk a0 n0 c0 l0 a1 W w0 w1).mono fun e W' ⟨he, bel⟩ => ?_
  subst he
  exact ⟨_, rfl, _, _, _, [], _, [], hW', trodAll_mk1 (shut_bool Try.underlying4 _), (trodAll_cons_mk (Below.trod laidOut (by kernel_rfl) (of_decide_eq_true (by kernel_rfl)) k0 bel lt0) (trodAll_cons_mk (Below.trod laidOut (by kernel_rfl) (of_decide_eq_true (by kernel_rfl)) k1 bel lt1) trodAll_mk0)), rfl, bel.frame _, fun h => by cases h⟩

theorem over : Rows.flowClosedRow.holds Try.pinned (OpenSpec.ofChange Rows.flowClosedSpec) :=
  OpenClaim.holds_of_wide 4 Try.f4 rfl rfl rfl rfl rfl rfl rfl ⟨rfl, rfl, rfl, rfl, rfl⟩ rfl rfl rfl rfl rfl (by kernel_rfl) Try.func4 (by kernel_rfl)
    (of_decide_eq_true (by kernel_rfl)) (by unfold Func.isWrapper; first | (rw [if_pos (by decide +kernel)]; kernel_rfl) | (rw [if_neg (by decide +kernel)]; exact ⟨rfl, rfl⟩))
    (fun os started H enc _ => lifted os started H enc)
end Go.Proofs.Ytclpnmideableaa.flowClosed
namespace Go.Proofs.Ytclpnmideableaa
theorem flowClosed_holds : Rows.FlowClosedSaid := flowClosed.over
#print axioms flowClosed_holds
end Go.Proofs.Ytclpnmideableaa
