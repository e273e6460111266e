/- What Reached of package flow returns: the whole. -/
import Derived.Test.YteliljhlfemnpaaGreatDoorFlowD
import Derived.Deep.LoopGhost
namespace Go.Proofs.YteliljhlfemnpaaGreatDoor
open Go.RowKit
set_option linter.unusedVariables false

/-- What Reached answers: the marks of what is reached, or none. -/
def Rd (l : List (Int × Int)) (bs : List Bool) : Prop := (codeB l = true ∧ Marked l bs) ∨ (codeB l = false ∧ bs = [])
theorem Rd.eq {l : List (Int × Int)} {a b : List Bool} (h : Rd l a) (k : Rd l b) : a = b := by
  rcases h with ⟨h1, h2⟩ | ⟨h1, rfl⟩
  · rcases k with ⟨_, k2⟩ | ⟨k1, _⟩
    · exact h2.eq k2
    · rw [h1] at k1; cases k1
  · rcases k with ⟨k1, _⟩ | ⟨_, rfl⟩
    · rw [h1] at k1; cases k1
    · rfl
theorem Rd.len {l : List (Int × Int)} {a : List Bool} (h : Rd l a) : a.length ≤ 64 := by
  rcases h with ⟨h1, h2⟩ | ⟨_, rfl⟩
  · rw [h2.1]; simp [codeB] at h1; exact h1.1.2
  · simp
theorem not3 {a b c : Prop} (h1 : ¬ a) (h2 : ¬ b) (h3 : ¬ c) : ¬ (a ∨ b ∨ c) := by
  rintro (h | h | h)
  · exact h1 h
  · exact h2 h
  · exact h3 h
theorem snoc_of {α : Type} (l : List α) (h : 0 < l.length) : ∃ r x, l = r ++ [x] := by
  have hne : l ≠ [] := by intro e; subst e; simp at h
  exact ⟨l.dropLast, l.getLast hne, (List.dropLast_concat_getLast hne).symm⟩
theorem rchs_take {s : List Bool × List Int} {xs : List Int} {j : Nat} {x : Int} (hj : j < xs.length) (e : xs.getD j 0 = x) : rchs s (xs.take (j + 1)) = rch (rchs s (xs.take j)) x := by
  rw [take_snoc_getD hj e, rchs_snoc]
theorem rchs_bound {s : List Bool × List Int} {xs : List Int} (h : ∀ x ∈ xs, 0 ≤ x ∧ x < s.1.length) (j : Nat) : (rchs s (xs.take j)).2.length ≤ unm s.1 + s.2.length := by
  have := (rchs_all (s := s) (xs := xs.take j) (fun x hx => h x (List.mem_of_mem_take hx))).2.1
  omega

/-- The world as Reached has it ahead of its first mark. -/
def reachW (w : World) (n : Nat) : World := (markW w n).alloc (.cells #[.slice none 0 0] 26)
theorem reachW_below (w : World) (n : Nat) : Below w.heap.size w (reachW w n) := Below.alloc (markW_below w n) (by rw [markW_size]; omega) _
theorem reachW_size (w : World) (n : Nat) : (reachW w n).heap.size = w.heap.size + 3 := by simp [reachW, markW_size]
theorem reachW_R (w : World) (n : Nat) : (reachW w n).cell? ⟨w.heap.size + 1, 0, none⟩ = some (.slice (some ⟨w.heap.size, 0, none⟩) n n) :=
  kept_cell (Below.alloc (Below.refl _ _) (Nat.le_refl _) _) (markW_cell w n)
theorem reachW_M (w : World) (n base : Nat) (hb : base ≤ w.heap.size) (hn : n ≤ maxLen) : MarkSt (reachW w n) w.heap.size n base (List.replicate n false) :=
  (markW_st w n base hb hn).kept (Below.alloc (Below.refl _ _) (Nat.le_refl _) _)
theorem reachW_W (w : World) (n : Nat) : WorkSt (reachW w n) (w.heap.size + 1 + 1) (w.heap.size + 3) [] (.slice none 0 0) := by
  have e : (markW w n).heap.size = w.heap.size + 1 + 1 := markW_size w n
  refine ⟨?_, ?_, World.ownsRow_nil _ _ _ _⟩
  · rw [← e]; simp [reachW, go_sem]
  · rw [← e]; simp [reachW, go_sem]

set_option maxRecDepth 100000 in
set_option maxHeartbeats 4000000 in
theorem reached_any (x y : Int) (a : Option Addr) (n c : Nat) (l : List (Int × Int)) (w : World) (h : Inss w a n c l) :
    Calls Tryz.prog 94 #[.agg #[.int .i64 x, .int .i64 y, .slice a n c]] w fun e w' => ∃ v bs, e = .returned (.tuple #[v, .int .i64 (cE l)]) ∧ Rd l bs ∧ w'.ownsRow w.heap.size 4 1 v bs.length (bools bs) ∧ Below w.heap.size w w' := by
  have L := hid h.len
  have hcp := h.cap
  cases hc : codeB l
  · rw [show cE l = 400 by simp [cE, hc]]
    go_enter Tryz.func94, Tryz.ntmps94
    go_wp2_with fail
    refine (isFlow_any _ _ _ _ _ l _ (h.kept (by go_grown))).mono ?_
    rintro e w1 ⟨rfl, hb⟩
    have B : Hid (Below w.heap.size w w1) := hid (kt (by go_grown) hb)
    clear hb
    go_wp2_with fail
    go_ret2
    exact ⟨_, [], rfl, .inr ⟨hc, rfl⟩, World.ownsRow_nil _ _ _ _, B.out⟩
  · have hlen : 1 ≤ n ∧ n ≤ 64 := by rw [L.out]; simp [codeB] at hc; exact hc.1
    rw [show cE l = 0 by simp [cE, hc]]
    have hmk := run_make_row' (P := Tryz.prog) 127 4 (.bool false) 1 Tryz.underlying127 Tryz.infoBool rfl .i64 .i64 n (by omega) (by omega)
    go_enter Tryz.func94, Tryz.ntmps94
    go_wp2_with fail
    refine (isFlow_any _ _ _ _ _ l _ (h.kept (by go_grown))).mono ?_
    rintro e w1 ⟨rfl, hb⟩
    have B : Hid (Below w.heap.size w w1) := hid (kt (by go_grown) hb)
    have d := kept_cell hb (b := w.heap.size) (o := 2) (v := .slice a n c) (by simp [go_sem])
    have hs : w.heap.size < w1.heap.size := by have := hb.size; simp at this; omega
    clear hb
    go_wp2_with fail
    have D := hid (kept_cell (reachW_below w1 n) d)
    have B2 : Hid (Below w.heap.size w (reachW w1 n)) := hid (kt B.out (reachW_below w1 n))
    refine (reach_any 0 (w1.heap.size + 1) (w1.heap.size + 1 + 1) (w1.heap.size + 3) w1.heap.size n w.heap.size (List.replicate n false) [] (.slice none 0 0) (reachW w1 n) (reachW_R w1 n) hlen.2 (by omega) (reachW_M w1 n _ (by omega) (by unfold maxLen; omega)) (reachW_W w1 n) (by simp) (by omega) (by omega) (by omega) (by omega) (by omega) (by rw [reachW_size]; omega)).mono ?_
    rintro e w2 ⟨rfl, v2, ms2, wk2, fr2, -⟩
    have e0 : rch (List.replicate n false, []) ((0 : Nat) : Int) = ((List.replicate l.length false).set 0 true, [0]) := by
      rw [L.out]; unfold rch; rw [if_neg]
      · simp
      · simp [List.getD_eq_getElem?_getD, List.getElem?_replicate]; split <;> simp
    rw [e0] at ms2 wk2
    have B3 : Hid (Below w.heap.size w w2) := hid (B2.out.trans (fr2.below (by have := B2.out.size; omega) (fun k hk => not3 (by omega) (by omega) (by simp [Value.ownBlock]))))
    have dF := fr2.cell D.out (not3 (by omega) (by omega) (by simp [Value.ownBlock]))
    have dR := fr2.cell (reachW_R w1 n) (not3 (by omega) (by omega) (by simp [Value.ownBlock]))
    have hs2 : w1.heap.size + 3 ≤ w2.heap.size := by have := fr2.size; rw [reachW_size] at this; exact this
    have hi := hid h
    have hr := h.room
    have K0 : Hid (unm ((List.replicate l.length false).set 0 true) + 1 = n) := hid (by
      have := unm_set (bs := List.replicate l.length false) (i := 0) (by rw [List.length_replicate, ← L.out]; omega) (by simp [List.getD_eq_getElem?_getD, List.getElem?_replicate]; split <;> simp)
      rw [unm_rep] at this; have := L.out; omega)
    clear h e0 fr2 d
    go_wp2_with fail
    go_loopg [] n (fun k wr => ∃ bs ws v, k = unm bs + ws.length ∧ k ≤ n ∧ RInv l bs ws ∧ wr.cell? ⟨w.heap.size, 2, none⟩ = some (.slice a n c) ∧ wr.cell? ⟨w1.heap.size + 1, 0, none⟩ = some (.slice (some ⟨w1.heap.size, 0, none⟩) n n) ∧ MarkSt wr w1.heap.size n w.heap.size bs ∧ WorkSt wr (w1.heap.size + 1 + 1) (w1.heap.size + 3) ws v ∧ w1.heap.size + 3 ≤ wr.heap.size ∧ Below w.heap.size w wr)
    case atStart => exact ⟨_, _, _, K0.out.symm, Nat.le_refl _, RInv.start (by have := L.out; omega), dF, dR, ms2, wk2, hs2, B3.out⟩
    case round =>
      clear dF dR ms2 wk2 hs2
      obtain ⟨bs, ws, v, hk, hkn, inv, dF, dR, ms, wk, hsz, hb⟩ := hrel
      have hlw : ws.length ≤ 64 := by omega
      have HK := hid (And.intro hk hkn)
      clear hk hkn
      by_cases hz : ws.length = 0
      · obtain rfl : ws = [] := List.length_eq_zero_iff.1 hz
        obtain ⟨va, vn, vc, rfl, hI⟩ := ints_of_owns wk.row (by omega)
        have hv0 : vn = 0 := hI.len
        subst hv0
        have cW := wk.cell
        have MS := hid ms
        have IV := hid inv
        clear ms wk hI inv hz hlw
        go_wp2_with fail
        go_ret2
        refine ⟨_, bs, rfl, .inl ⟨hc, IV.out.done⟩, ?_, hb⟩
        rw [MS.out.len]
        exact MS.out.row
      · obtain ⟨ws0, xx, rfl⟩ := snoc_of ws (by omega)
        obtain ⟨p, rfl, hpm⟩ := inv.work xx (by simp)
        have hpn : p < n := by have := getD_true_lt hpm; rw [ms.len] at this; exact this
        obtain ⟨gw, cap, rfl, hgw, hgw2⟩ := wk.row.form (by simp)
        have hcap : (ws0 ++ [(p : Int)]).length ≤ cap := by
          rcases wk.row.2 with ⟨e, _⟩ | ⟨_, _, _, e, _, _, r, _⟩
          · cases e
          · cases e; exact r
        have hl1 : (ws0 ++ [(p : Int)]).length = ws0.length + 1 := by simp
        have cW := wk.cell
        have fW := wk.free
        have cX : wr.cell? ⟨gw, ws0.length, none⟩ = some (.int .i64 p) := by
          have h1 := wk.row.cellAt ws0.length (by simp)
          rw [h1, ints_at _ _ (by simp)]
          simp [List.getD_eq_getElem?_getD]
        have ROW : Hid (wr.ownsRow (w1.heap.size + 3) 3 1 (.slice (some ⟨gw, 0, none⟩) ws0.length cap) ws0.length (ints ws0)) := hid (by
          have := wk.row
          rw [hl1, ints_app] at this
          exact ownsRow_pop (by rw [ints_len]; omega) this)
        rw [hl1] at cW hcap hlw
        have MS := hid ms
        have IV := hid inv
        have HPM := hid hpm
        clear ms wk inv hpm hz hl1
        go_wp2_with fail
        have fr0 : Frm (fun k => k = w1.heap.size + 1 + 1) wr (wr.setCell ⟨w1.heap.size + 1 + 1, 0, none⟩ (.slice (some ⟨gw, 0, none⟩) ws0.length cap)) := Frm.set _ rfl
        have hb0 : Below w.heap.size w (wr.setCell ⟨w1.heap.size + 1 + 1, 0, none⟩ (.slice (some ⟨gw, 0, none⟩) ws0.length cap)) := Below.setCell hb (by simp; omega) _
        have ms0 := MS.out.frm fr0 (by omega)
        have wk0 : WorkSt (wr.setCell ⟨w1.heap.size + 1 + 1, 0, none⟩ (.slice (some ⟨gw, 0, none⟩) ws0.length cap)) (w1.heap.size + 1 + 1) (w1.heap.size + 3) ws0 (.slice (some ⟨gw, 0, none⟩) ws0.length cap) :=
          ⟨World.cell?_setCell_same _ _ _ cW, by simp [fW], owns_set ROW.out _ _ (by simp)⟩
        have dF0 := fr0.cell dF (by omega)
        have dR0 := fr0.cell dR (by omega)
        have hu0 : (wr.setCell ⟨w1.heap.size + 1 + 1, 0, none⟩ (.slice (some ⟨gw, 0, none⟩) ws0.length cap)).heap.size = wr.heap.size := by simp
        generalize hu : wr.setCell ⟨w1.heap.size + 1 + 1, 0, none⟩ (.slice (some ⟨gw, 0, none⟩) ws0.length cap) = u0 at *
        clear hu fr0
        refine (next_any p _ _ _ l u0 (hi.out.kept hb0) hpn).mono ?_
        rintro e u1 ⟨v1, rfl, ho1, hb1⟩
        have HXI : Hid (∀ x ∈ nextL l p, 0 ≤ x ∧ x < n) := hid (fun x hx => by have := nextL_in x hx; have := L.out; omega)
        have HXL := hid (nextL_len l p)
        have STEP : Hid (RInv l (rchs (bs, ws0) (nextL l p)).1 (rchs (bs, ws0) (nextL l p)).2) := hid IV.out.step
        have SUM : Hid (unm (rchs (bs, ws0) (nextL l p)).1 + (rchs (bs, ws0) (nextL l p)).2.length = unm bs + ws0.length) := hid (rchs_all (s := (bs, ws0)) (xs := nextL l p) (fun x hx => by rw [show (bs, ws0).1.length = n from MS.out.len]; exact HXI.out x hx)).2.1
        have BND : Hid (∀ j, (rchs (bs, ws0) ((nextL l p).take j)).2.length ≤ 64) := hid (fun j => by
          have h1 := rchs_bound (s := (bs, ws0)) (xs := nextL l p) (fun x hx => by rw [show (bs, ws0).1.length = n from MS.out.len]; exact HXI.out x hx) j
          have h2 := HK.out
          simp at h1 h2
          omega)
        generalize hxs : nextL l p = xs at *
        clear hxs
        obtain ⟨a1, n1, c1, rfl, I1⟩ := ints_of_owns ho1 (by have := HXL.out; omega)
        have hn1 : Hid (n1 = xs.length) := hid I1.len
        have hcp1 := I1.cap
        have hr1 := I1.room
        have m1 := hid (ms0.kept hb1)
        have wk1 : Hid (WorkSt u1 (w1.heap.size + 1 + 1) (w1.heap.size + 3) ws0 (.slice (some ⟨gw, 0, none⟩) ws0.length cap)) := hid ⟨kept_cell hb1 wk0.cell, (hb1.frozen (p := ⟨w1.heap.size + 1 + 1, 0, none⟩) (lt_of_cell wk0.cell)).trans wk0.free, owns_kept wk0.row hb1⟩
        have dF1 := hid (kept_cell hb1 dF0)
        have dR1 := hid (kept_cell hb1 dR0)
        have hs1 : u0.heap.size ≤ u1.heap.size := hb1.size
        have B1 : Hid (Below w.heap.size w u1) := hid (kt hb0 hb1)
        have O1 := hid ho1
        have NO : Hid (∀ k, (Value.slice a1 n1 c1).ownBlock = some k → (Value.slice (some ⟨gw, 0, none⟩) ws0.length cap).ownBlock ≠ some k) := hid (fun k hk e => by
          have h1 := (ho1.lt k hk).1
          simp [Value.ownBlock] at e
          omega)
        have LO : Hid (∀ k, (Value.slice a1 n1 c1).ownBlock = some k → u0.heap.size ≤ k) := hid (fun k hk => (ho1.lt k hk).1)
        clear ho1 hb1 ms0 wk0 dF0 dR0 dF dR cW fW cX hb0 hb I1
        go_wp2_with fail
        go_loopw [39] (fun i wq => ∃ j : Nat, j ≤ n1 ∧ i = .int .i64 j ∧ ∃ v', MarkSt wq w1.heap.size n w.heap.size (rchs (bs, ws0) (xs.take j)).1 ∧ WorkSt wq (w1.heap.size + 1 + 1) (w1.heap.size + 3) (rchs (bs, ws0) (xs.take j)).2 v' ∧
          wq.cell? ⟨w.heap.size, 2, none⟩ = some (.slice a n c) ∧ wq.cell? ⟨w1.heap.size + 1, 0, none⟩ = some (.slice (some ⟨w1.heap.size, 0, none⟩) n n) ∧ wq.ownsRow u0.heap.size 3 1 (.slice a1 n1 c1) xs.length (ints xs) ∧ (∀ k, (Value.slice a1 n1 c1).ownBlock = some k → v'.ownBlock ≠ some k) ∧ wr.heap.size ≤ wq.heap.size ∧ Below w.heap.size w wq) (fun i _ => n1 - (intOf i).toNat)
        case atStart => exact ⟨0, Nat.zero_le _, rfl, _, m1.out, wk1.out, dF1.out, dR1.out, O1.out, NO.out, by omega, B1.out⟩
        case round =>
          clear m1 wk1 dF1 dR1 B1 O1 NO
          obtain ⟨j, hj, rfl, v', ms, wk, dF, dR, ho, no, hsz2, hb⟩ := hrel
          by_cases hlt : j < n1
          · obtain ⟨_, _, _, e1, I1⟩ := ints_of_owns ho (by have := HXL.out; omega)
            cases e1
            obtain ⟨b1, o1, rfl, hrow⟩ := I1.row (by omega)
            have cX := hrow j hlt
            have hmem : xs.getD j 0 ∈ xs := by have := hn1.out; simp [List.getD_eq_getElem?_getD, show j < xs.length by omega]
            have hrg := HXI.out _ hmem
            obtain ⟨q, hq⟩ : ∃ q : Nat, xs.getD j 0 = q := ⟨(xs.getD j 0).toNat, by omega⟩
            rw [hq] at cX hrg
            have HQ := hid (rchs_take (s := (bs, ws0)) (xs := xs) (j := j) (by have := hn1.out; omega) hq)
            have hqn : q < n := by omega
            have R0 := hid (And.intro ms (And.intro wk (And.intro dF (And.intro ho no))))
            have hgw3 : ∀ k, v'.ownBlock = some k → w1.heap.size + 3 ≤ k := fun k hk => (wk.row.lt k hk).1
            have HG := hid hgw3
            clear ms wk ho no hq hmem hrg hrow I1 dF hgw3
            go_wp2_with fail
            refine (reach_any q (w1.heap.size + 1) (w1.heap.size + 1 + 1) (w1.heap.size + 3) w1.heap.size n w.heap.size _ _ v' _ dR hlen.2 hqn R0.out.1 R0.out.2.1 (by have := BND.out j; omega) (by omega) (by omega) (by omega) (by omega) (by omega) (by omega)).mono ?_
            rintro e w3 ⟨rfl, v3, ms3, wk3, fr3, at3⟩
            have P3 := hid (And.intro ms3 (And.intro wk3 (And.intro fr3 at3)))
            clear ms3 wk3 fr3 at3
            go_wp2_with fail
            go_roundw
            case rel =>
              obtain ⟨ms3, wk3, fr3, at3⟩ := P3.out
              obtain ⟨_, _, dF, ho, no⟩ := R0.out
              have hlo := ho.lt
              refine ⟨j + 1, by omega, by go_num, v3, by rw [HQ.out]; exact ms3, by rw [HQ.out]; exact wk3, fr3.cell dF (not3 (by omega) (by omega) (fun h => by have := HG.out _ h; omega)), fr3.cell dR (not3 (by omega) (by omega) (fun h => by have := HG.out _ h; omega)), fr3.owns ho (fun k hk => not3 (by have := LO.out k hk; omega) (by have := LO.out k hk; omega) (no k hk)), fun k hk => ?_, by have := fr3.size; omega, ?_⟩
              · rcases at3 with h | ⟨g', h, hg'⟩
                · rw [h]; exact no k hk
                · rw [h]; intro e; cases e; have := (hlo _ hk).2; omega
              · exact hb.trans (fr3.below (by have := hb.size; omega) (fun k hk => not3 (by omega) (by omega) (fun h => by have := HG.out _ h; omega)))
            case measure => simp [intOf]; omega
          · have hjn : j = n1 := by omega
            subst hjn
            have et : xs.take j = xs := List.take_of_length_le (by have := hn1.out; omega)
            rw [et] at ms wk
            have R0 := hid (And.intro ms (And.intro wk (And.intro dF dR)))
            clear ms wk ho no dF dR et
            go_wp2_with fail
            go_roundg (unm bs + ws0.length)
            case measure => have := HK.out.1; simp at this; omega
            case rel => exact ⟨_, _, v', SUM.out.symm, by have := HK.out; simp at this; omega, STEP.out, R0.out.2.2.1, R0.out.2.2.2, R0.out.1, R0.out.2.1, by omega, hb⟩

end Go.Proofs.YteliljhlfemnpaaGreatDoor
