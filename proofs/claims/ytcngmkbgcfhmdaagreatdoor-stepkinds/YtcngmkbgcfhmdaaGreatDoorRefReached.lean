/- What the document's own Reached returns: the whole. -/
import Derived.Test.YtcngmkbgcfhmdaaGreatDoorRefReach
namespace Go.Proofs.YtcngmkbgcfhmdaaGreatDoor
open Go.RowKit
set_option linter.unusedVariables false

set_option maxRecDepth 100000 in
set_option maxHeartbeats 4000000 in
theorem refReached_any (x y : Int) (a : Option Addr) (n c : Nat) (l : List (Int × Int)) (w : World) (h : Inss w a n c l) :
    Calls Tryz.prog 87 #[.agg #[.int .i64 x, .int .i64 y, .slice a n c]] w fun e w' => ∃ v bs, e = .returned (.tuple #[v, .int .i64 (cE l)]) ∧ Rd l bs ∧ w'.ownsRow w.heap.size 4 1 v bs.length (bools bs) ∧ Below w.heap.size w w' := by
  obtain ⟨i0, hi, hz0, hz1, hz2⟩ := info_parts Tryz.infoInt
  have L := hid h.len
  have hcp := h.cap
  cases hc : codeB l
  · rw [show cE l = 400 by simp [cE, hc]]
    go_enter Tryz.func87, Tryz.ntmps87
    go_wp2_with fail
    refine (refFuncMay_any _ _ _ _ _ l _ (h.kept (by go_grown))).mono ?_
    rintro e w1 ⟨rfl, hb⟩
    have B : Hid (Below w.heap.size w w1) := hid (kt (by go_grown) hb)
    clear hb
    go_wp2_with fail
    go_ret2
    exact ⟨_, [], rfl, .inr ⟨hc, rfl⟩, World.ownsRow_nil _ _ _ _, B.out⟩
  · have hlen : 1 ≤ n ∧ n ≤ 64 := by rw [L.out]; simp [codeB] at hc; exact hc.1
    rw [show cE l = 0 by simp [cE, hc]]
    have hmk := run_make_row' (P := Tryz.prog) 132 4 (.bool false) 1 Tryz.underlying132 Tryz.infoBool rfl .i64 .i64 n (by omega) (by omega)
    have HC := hid hc
    have HI0 := hid h
    have hr := h.room
    go_enter Tryz.func87, Tryz.ntmps87
    go_wp2_with fail
    refine (refFuncMay_any _ _ _ _ _ l _ (h.kept (by go_grown))).mono ?_
    rintro e w1 ⟨rfl, hb⟩
    have B : Hid (Below w.heap.size w w1) := hid (kt (by go_grown) hb)
    have hs : w.heap.size < w1.heap.size := by have := hb.size; simp at this; omega
    have d0 := kept_cell hb (b := w.heap.size) (o := 0) (v := .int .i64 x) (by simp [go_sem])
    have d1 := kept_cell hb (b := w.heap.size) (o := 1) (v := .int .i64 y) (by simp [go_sem])
    have d2 := kept_cell hb (b := w.heap.size) (o := 2) (v := .slice a n c) (by simp [go_sem])
    clear hb h
    have hB2 : Below w1.heap.size w1 ((w1.alloc (.cells (madeCells #[.bool false] n) 4)).alloc (.cells #[.int .i64 0] 3)) := Below.alloc (Below.alloc (Below.refl _ _) (Nat.le_refl _) _) (by simp) _
    have D := hid (And.intro (kept_cell hB2 d0) (And.intro (kept_cell hB2 d1) (kept_cell hB2 d2)))
    have B2 : Hid (Below w.heap.size w ((w1.alloc (.cells (madeCells #[.bool false] n) 4)).alloc (.cells #[.int .i64 0] 3))) := hid (kt B.out hB2)
    have M0 : Hid (MarkSt ((w1.alloc (.cells (madeCells #[.bool false] n) 4)).alloc (.cells #[.int .i64 0] 3)) w1.heap.size n w.heap.size (List.replicate l.length false)) := hid (by
      rw [← L.out]; exact (MarkSt.make w1 n w.heap.size (by omega) (by unfold maxLen; omega)).kept (Below.alloc (Below.refl _ _) (Nat.le_refl _) _))
    have Q0 : Hid (Queue ((w1.alloc (.cells (madeCells #[.bool false] n) 4)).alloc (.cells #[.int .i64 0] 3)) (w1.heap.size + 1) (w1.heap.size + 1) 0 1 [0]) := hid (by
      have := World.ownsRow_lit (e := 3) (size := 1) (base := w1.heap.size + 1) (w1.alloc (.cells (madeCells #[.bool false] n) 4)) #[.int .i64 0] 1 (by simp) (by decide) rfl
      have := Queue.of_owns (xs := [0]) this
      simpa using this)
    clear hB2
    go_wp2_with fail
    go_loopg [5] (3 * n + 1) (fun k wv wr => ∃ bs ws g o cap, k = 3 * unm bs + ws.length ∧ k ≤ 3 * n + 1 ∧ QInv l bs ws ∧ wv = .slice (some ⟨g, o, none⟩) ws.length cap ∧ Queue wr (w1.heap.size + 1) g o cap ws ∧ wr.cell? ⟨w.heap.size, 0, none⟩ = some (.int .i64 x) ∧ wr.cell? ⟨w.heap.size, 1, none⟩ = some (.int .i64 y) ∧ wr.cell? ⟨w.heap.size, 2, none⟩ = some (.slice a n c) ∧ MarkSt wr w1.heap.size n w.heap.size bs ∧ Below w.heap.size w wr)
    case atStart => exact ⟨_, _, _, _, _, by rw [unm_rep, ← L.out]; rfl, Nat.le_refl _, QInv.start (by have := L.out; omega), rfl, Q0.out, D.out.1, D.out.2.1, D.out.2.2, M0.out, B2.out⟩
    case round =>
      clear D M0 Q0 B2 d0 d1 d2 hmk hc
      obtain ⟨bs, ws, g, o, cap, hk, hkn, inv, rfl, q, d0, d1, d2, ms, hb⟩ := hrel
      have hlw : ws.length ≤ 200 := by omega
      have HK := hid (And.intro hk hkn)
      have hcq := q.len
      clear hk hkn
      cases ws with
      | nil =>
        have MS := hid ms
        have IV := hid inv
        clear ms q inv
        go_wp2_with fail
        go_ret2
        refine ⟨_, bs, rfl, .inl ⟨HC.out, IV.out.done⟩, ?_, hb⟩
        rw [MS.out.len]
        exact MS.out.row
      | cons xx ws0 =>
        obtain ⟨p, rfl, hpl, -⟩ := inv.work xx (by simp)
        have hpn : p < n := by have := L.out; omega
        have cX := q.head
        have cM := ms.at p hpn
        have fM := ms.free p
        have hgl := q.lt
        have hgo := q.old
        have hl1 : ((p : Int) :: ws0).length = ws0.length + 1 := by simp
        rw [hl1] at hcq hlw ⊢
        have IV := hid inv
        have MS := hid ms
        have B1 : Hid (Below w.heap.size w (wr.setCell ⟨w1.heap.size, p, none⟩ (.bool true))) := hid (Below.setCell hb (by simp; omega) _)
        have F1 : Hid (Frm (fun k => k = w1.heap.size) wr (wr.setCell ⟨w1.heap.size, p, none⟩ (.bool true))) := hid (Frm.set _ rfl)
        have M1 := hid (ms.put p)
        have HM : Hid (bs.getD p false = false → unm (bs.set p true) + 1 = unm bs) := hid (fun h => unm_set (by rw [ms.len]; exact hpn) h)
        have NL := hid (nextL_len l p)
        have NE : Hid (nxL l p = nextL l p) := hid (by unfold nxL; rw [if_pos (by rw [nxOk, HC.out, show inB l.length p = true by simp [inB]; omega]; rfl), Int.toNat_natCast])
        have QT : Hid (∃ o', (cap = 1 → o' = o) ∧ (¬ cap = 1 → o' = o + 1) ∧ Queue wr (w1.heap.size + 1) g o' (cap - 1) ws0) := hid (by
          have qt := q.tail
          by_cases h1 : cap = 1
          · have e0 : ws0 = [] := List.length_eq_zero_iff.1 (by omega)
            refine ⟨o, fun _ => rfl, fun h => absurd h1 h, ⟨qt.old, qt.lt, qt.len, ?_, ?_⟩⟩
            · rw [e0]; intro j v hv; simp [ints] at hv
            · intro j hj; omega
          · exact ⟨o + 1, fun h => absurd h h1, fun _ => rfl, qt⟩)
        clear q inv ms hl1
        cases hm : bs.getD p false
        rotate_left
        · rw [hm] at cM
          by_cases h1 : cap = 1
          · obtain ⟨o', e1, -, QT0⟩ := QT.out
            have e1 := e1 h1
            subst e1
            subst h1
            obtain rfl : ws0 = [] := List.length_eq_zero_iff.1 (by omega)
            have Q := hid QT0
            clear QT0 QT
            go_wp2_with fail
            go_roundg (3 * unm bs + 0)
            case measure => have := HK.out.1; simp at this; omega
            case rel => exact ⟨bs, [], g, _, _, rfl, by have := HK.out; simp at this; omega, IV.out.skip hm, rfl, Q.out, d0, d1, d2, MS.out, hb⟩
          · obtain ⟨o', -, e1, QT0⟩ := QT.out
            have e1 := e1 h1
            subst e1
            have Q := hid QT0
            clear QT0 QT
            go_wp2_with fail
            go_roundg (3 * unm bs + ws0.length)
            case measure => have := HK.out.1; simp at this; omega
            case rel => exact ⟨bs, ws0, g, _, _, rfl, by have := HK.out; simp at this; omega, IV.out.skip hm, rfl, Q.out, d0, d1, d2, MS.out, hb⟩
        · rw [hm] at cM
          obtain ⟨o', e1, e2, QT0⟩ := QT.out
          have q1 := F1.out
          have c0 := q1.cell d0 (by omega)
          have c1 := q1.cell d1 (by omega)
          have c2 := q1.cell d2 (by omega)
          have Q1 := hid (QT0.frm q1 (by omega))
          clear q1 QT QT0
          have CC := hid (And.intro c0 (And.intro c1 c2))
          clear c0 c1 c2
          by_cases h1 : cap = 1
          · have e1 := e1 h1
            subst e1
            subst h1
            obtain rfl : ws0 = [] := List.length_eq_zero_iff.1 (by omega)
            clear e2
            go_wp2_with fail
            refine (refNext_any x y p a n c l _ (HI0.out.kept B1.out)).mono ?_
            rintro e w2 ⟨v2, rfl, ho2, hb2⟩
            rw [NE.out] at ho2
            have hsz := hb2.size
            simp at hsz
            have Q2 := hid (Q1.out.frm (Frm.of_below (S := fun _ => False) hb2) (fun h => h))
            have M2 := hid (M1.out.kept hb2)
            have C2 := hid (And.intro (kept_cell hb2 CC.out.1) (And.intro (kept_cell hb2 CC.out.2.1) (kept_cell hb2 CC.out.2.2)))
            have B2 : Hid (Below w.heap.size w w2) := hid (kt B1.out hb2)
            have O2 := hid ho2
            clear ho2 hb2
            obtain ⟨va, vn, vc, rfl, hvI⟩ := ints_of_owns O2.out (by have := NL.out; omega)
            clear hvI
            go_wp2_with (first | (at_builtin; go_must ((refine wpList_append_queue _ rfl _ _ 26 rfl 3 i0 (.int .i64 0) 8 Tryz.underlying26 hi hz0 hz1 hz2 rfl _ _ _ _ [] (nextL l p) rfl Q2.out _ _ rfl O2.out (by unfold maxLen; have := NL.out; omega) (by have := NL.out; omega) ?_; intro g3 o3 cap3 w3 q3 f3 at3; have P3 := hid (And.intro q3 (And.intro f3 at3)); clear q3 f3 at3))))
            obtain ⟨q3, f3, at3⟩ := P3.out
            go_roundg (3 * unm (bs.set p true) + ([] ++ nextL l p).length)
            case measure => have := HK.out.1; have := HM.out hm; have := NL.out; simp at *; omega
            case rel => exact ⟨bs.set p true, [] ++ nextL l p, g3, o3, cap3, rfl, by have := HK.out; have := HM.out hm; have := NL.out; simp at *; omega, IV.out.take, rfl, q3, f3.cell C2.out.1 (by omega), f3.cell C2.out.2.1 (by omega), f3.cell C2.out.2.2 (by omega), M2.out.frm f3 (by omega), B2.out.trans (f3.below (by have := B2.out.size; omega) (fun k hk => by omega))⟩
          · have e2 := e2 h1
            subst e2
            clear e1
            go_wp2_with fail
            refine (refNext_any x y p a n c l _ (HI0.out.kept B1.out)).mono ?_
            rintro e w2 ⟨v2, rfl, ho2, hb2⟩
            rw [NE.out] at ho2
            have hsz := hb2.size
            simp at hsz
            have Q2 := hid (Q1.out.frm (Frm.of_below (S := fun _ => False) hb2) (fun h => h))
            have M2 := hid (M1.out.kept hb2)
            have C2 := hid (And.intro (kept_cell hb2 CC.out.1) (And.intro (kept_cell hb2 CC.out.2.1) (kept_cell hb2 CC.out.2.2)))
            have B2 : Hid (Below w.heap.size w w2) := hid (kt B1.out hb2)
            have O2 := hid ho2
            clear ho2 hb2
            obtain ⟨va, vn, vc, rfl, hvI⟩ := ints_of_owns O2.out (by have := NL.out; omega)
            clear hvI
            go_wp2_with (first | (at_builtin; go_must ((refine wpList_append_queue _ rfl _ _ 26 rfl 3 i0 (.int .i64 0) 8 Tryz.underlying26 hi hz0 hz1 hz2 rfl _ _ _ _ ws0 (nextL l p) rfl Q2.out _ _ rfl O2.out (by unfold maxLen; have := NL.out; omega) (by have := NL.out; omega) ?_; intro g3 o3 cap3 w3 q3 f3 at3; have P3 := hid (And.intro q3 (And.intro f3 at3)); clear q3 f3 at3))))
            obtain ⟨q3, f3, at3⟩ := P3.out
            go_roundg (3 * unm (bs.set p true) + (ws0 ++ nextL l p).length)
            case measure => have := HK.out.1; have := HM.out hm; have := NL.out; simp at *; omega
            case rel => exact ⟨bs.set p true, ws0 ++ nextL l p, g3, o3, cap3, rfl, by have := HK.out; have := HM.out hm; have := NL.out; simp at *; omega, IV.out.take, by rw [List.length_append], q3, f3.cell C2.out.1 (by omega), f3.cell C2.out.2.1 (by omega), f3.cell C2.out.2.2 (by omega), M2.out.frm f3 (by omega), B2.out.trans (f3.below (by have := B2.out.size; omega) (fun k hk => by omega))⟩

end Go.Proofs.YtcngmkbgcfhmdaaGreatDoor
