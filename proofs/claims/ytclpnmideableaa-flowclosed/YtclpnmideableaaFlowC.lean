/- What Leaders of package flow returns. -/
import Derived.Test.YtclpnmideableaaFlowB
import Derived.Deep.OwnRows
namespace Go.Proofs.Ytclpnmideableaa
open Go.RowKit
set_option linter.unusedVariables false

theorem Try.infoBool : (Try.prog.info? 4).map (fun i => (i.zero, i.size, i.bytes)) = some (some (.bool false), 1, 1) := by kernel_rfl

/-- n marks, in a row of their own at block g. -/
structure MarkSt (w : World) (g n base : Nat) (bs : List Bool) : Prop where
  len : bs.length = n
  row : w.ownsRow base 4 1 (.slice (some ⟨g, 0, none⟩) n n) n (bools bs)
theorem MarkSt.at {w : World} {g n base : Nat} {bs : List Bool} (h : MarkSt w g n base bs) (i : Nat) (hi : i < n) : w.cell? ⟨g, i, none⟩ = some (.bool (bs.getD i false)) := by
  rw [h.row.cellAt i (by omega), bools_at bs i (by have := h.len; omega)]
theorem MarkSt.free {w : World} {g n base : Nat} {bs : List Bool} (h : MarkSt w g n base bs) (i : Nat) : w.frozen? ⟨g, i, none⟩ = false := h.row.frozenAt i
theorem MarkSt.put {w : World} {g n base : Nat} {bs : List Bool} (h : MarkSt w g n base bs) (i : Nat) : MarkSt (w.setCell ⟨g, i, none⟩ (.bool true)) g n base (bs.set i true) := by
  refine ⟨by simpa using h.len, ?_⟩
  have := (h.row.stored i (.bool true)).1
  rw [bools_set] at this
  exact this
theorem MarkSt.kept {w w' : World} {g n base : Nat} {bs : List Bool} (h : MarkSt w g n base bs) (hb : Below w.heap.size w w') : MarkSt w' g n base bs := ⟨h.len, owns_kept h.row hb⟩
theorem MarkSt.frm {S : Nat → Prop} {w w' : World} {g n base : Nat} {bs : List Bool} (h : MarkSt w g n base bs) (hf : Frm S w w') (hg : ¬ S g) : MarkSt w' g n base bs := ⟨h.len, hf.owns h.row (fun k hk => by cases hk; exact hg)⟩
theorem MarkSt.lt {w : World} {g n base : Nat} {bs : List Bool} (h : MarkSt w g n base bs) : base ≤ g ∧ g < w.heap.size := h.row.lt g rfl
theorem MarkSt.make (w : World) (n base : Nat) (hb : base ≤ w.heap.size) (hn : n ≤ maxLen) : MarkSt (w.alloc (.cells (madeCells #[.bool false] n) 4)) w.heap.size n base (List.replicate n false) := by
  refine ⟨by simp, ?_⟩
  have := World.ownsRow_lit (e := 4) (size := 1) w (madeCells #[.bool false] n) n hb hn (by simp [madeCells])
  rw [toList_madeCells_one, bools_rep] at this
  exact this

/-- The world behind the marks and the cell that holds them. -/
def markW (w : World) (n : Nat) : World := (w.alloc (.cells (madeCells #[.bool false] n) 4)).alloc (.cells #[.slice (some ⟨w.heap.size, 0, none⟩) n n] 37)
theorem markW_below (w : World) (n : Nat) : Below w.heap.size w (markW w n) := Below.alloc (Below.alloc (Below.refl _ _) (Nat.le_refl _) _) (by simp) _
theorem markW_cell (w : World) (n : Nat) : (markW w n).cell? ⟨w.heap.size + 1, 0, none⟩ = some (.slice (some ⟨w.heap.size, 0, none⟩) n n) := by simp [markW, go_sem]
theorem markW_free (w : World) (n : Nat) : (markW w n).frozen? ⟨w.heap.size + 1, 0, none⟩ = false := by simp [markW, go_sem]
theorem markW_size (w : World) (n : Nat) : (markW w n).heap.size = w.heap.size + 2 := by simp [markW]
theorem markW_st (w : World) (n base : Nat) (hb : base ≤ w.heap.size) (hn : n ≤ maxLen) : MarkSt (markW w n) w.heap.size n base (List.replicate n false) :=
  (MarkSt.make w n base hb hn).kept (Below.alloc (Below.refl _ _) (Nat.le_refl _) _)

set_option maxHeartbeats 1000000 in
theorem lead_any (x : Int) (F T g n c base : Nat) (sa : Option Addr) (bs : List Bool) (w : World) (hF : w.cell? ⟨F, 2, none⟩ = some (.slice sa n c)) (hT : w.cell? ⟨T, 0, none⟩ = some (.slice (some ⟨g, 0, none⟩) n n)) (hn : n ≤ 64) (st : MarkSt w g n base bs) :
    Calls Try.prog 25 #[.int .i64 x, .pointer (some ⟨F, 0, none⟩), .pointer (some ⟨T, 0, none⟩)] w fun e w' => e = .returned (.tuple #[]) ∧ MarkSt w' g n base (setB bs x) ∧ Frm (fun k => k = g) w w' := by
  cases hin : inB n x
  · go_enter Try.func25, Try.ntmps25
    go_wp2_with (first | (go_at_call 22; refine (isIn_any _ _ _ _ _).mono ?_; rintro e w' ⟨rfl, hw⟩; rw [hw]; clear hw))
    go_end0
    exact ⟨rfl, by unfold setB; rw [st.len, hin]; exact st, Frm.refl _ _⟩
  · have hx : 0 ≤ x ∧ x < n := by simpa [inB] using hin
    obtain ⟨p, rfl⟩ : ∃ p : Nat, x = p := ⟨x.toNat, by omega⟩
    have hp : p < n := by omega
    have c1 := st.at p hp
    have f1 := st.free p
    have ST := hid st
    clear st
    go_enter Try.func25, Try.ntmps25
    go_wp2_with (first | (go_at_call 22; refine (isIn_any _ _ _ _ _).mono ?_; rintro e w' ⟨rfl, hw⟩; rw [hw]; clear hw))
    go_end0
    refine ⟨rfl, ?_, Frm.set _ rfl⟩
    unfold setB
    rw [ST.out.len, hin]
    exact ST.out.put p

set_option maxHeartbeats 2000000 in
theorem leaders_any (x y : Int) (a : Option Addr) (n c : Nat) (l : List (Int × Int)) (w : World) (h : Inss w a n c l) :
    Calls Try.prog 11 #[.agg #[.int .i64 x, .int .i64 y, .slice a n c]] w fun e w' => ∃ v, e = .returned (.tuple #[v, .int .i64 (cE l)]) ∧ w'.ownsRow w.heap.size 4 1 v (leadL l).length (bools (leadL l)) ∧ Below w.heap.size w w' := by
  have L := hid h.len
  have hcp := h.cap
  cases hc : codeB l
  · rw [show cE l = 400 by simp [cE, hc], show leadL l = [] by simp [leadL, hc]]
    go_enter Try.func11, Try.ntmps11
    go_wp2_with fail
    refine (isFlow_any _ _ _ _ _ l _ (h.kept (by go_grown))).mono ?_
    rintro e w1 ⟨rfl, hb⟩
    have B : Hid (Below w.heap.size w w1) := hid (kt (by go_grown) hb)
    clear hb
    go_wp2_with fail
    go_ret2
    exact ⟨_, rfl, World.ownsRow_nil _ _ _ _, B.out⟩
  · have hlen : 1 ≤ n ∧ n ≤ 64 := by rw [L.out]; simp [codeB] at hc; exact hc.1
    rw [show cE l = 0 by simp [cE, hc], show leadL l = leadSt l l.length by simp [leadL, hc]]
    have hmk := run_make_row' (P := Try.prog) 37 4 (.bool false) 1 Try.underlying37 Try.infoBool rfl .i64 .i64 n (by omega) (by omega)
    go_enter Try.func11, Try.ntmps11
    go_wp2_with fail
    refine (isFlow_any _ _ _ _ _ l _ (h.kept (by go_grown))).mono ?_
    rintro e w1 ⟨rfl, hb⟩
    have B : Hid (Below w.heap.size w w1) := hid (kt (by go_grown) hb)
    have d := kept_cell hb (b := w.heap.size) (o := 2) (v := .slice a n c) (by simp [go_sem])
    have hs : w.heap.size < w1.heap.size := by have := hb.size; simp at this; omega
    clear hb
    go_wp2_with fail
    have hB2 := markW_below w1 n
    have dF := kept_cell hB2 d
    have dT := markW_cell w1 n
    have st0 := markW_st w1 n w.heap.size (by omega) (by unfold maxLen; omega)
    have B2 : Hid (Below w.heap.size w (markW w1 n)) := hid (kt B.out hB2)
    clear hB2
    refine (lead_any 0 w.heap.size (w1.heap.size + 1) w1.heap.size n c w.heap.size a (List.replicate n false) (markW w1 n) dF dT hlen.2 st0).mono ?_
    rintro e w2 ⟨rfl, st2, fr2⟩
    have e2 : setB (List.replicate n false) 0 = leadSt l 0 := by rw [L.out]; rfl
    rw [e2] at st2
    have dF2 := fr2.cell dF (by omega)
    have dT2 := fr2.cell dT (by omega)
    have B3 : Hid (Below w.heap.size w w2) := hid (B2.out.trans (fr2.below (by have := B2.out.size; omega) (fun k hk => by omega)))
    clear dF dT st0 fr2 e2 d
    have hi := hid h
    have hr := h.room
    clear h
    go_wp2_with fail
    go_loopw [21] (fun i wr => ∃ q : Nat, q ≤ n ∧ i = .int .i64 q ∧ wr.cell? ⟨w.heap.size, 2, none⟩ = some (.slice a n c) ∧ wr.cell? ⟨w1.heap.size + 1, 0, none⟩ = some (.slice (some ⟨w1.heap.size, 0, none⟩) n n) ∧ MarkSt wr w1.heap.size n w.heap.size (leadSt l q) ∧ Below w.heap.size w wr) (fun i _ => n - (intOf i).toNat)
    case atStart => exact ⟨0, Nat.zero_le _, rfl, dF2, dT2, st2, B3.out⟩
    case round =>
      clear dF2 dT2 st2
      obtain ⟨q, hq, rfl, dF, dT, st, hb⟩ := hrel
      by_cases hlt : q < n
      · obtain ⟨b1, o1, x1, y1, rfl, e1, c1, c2⟩ := (hi.out.kept hb).at q hlt
        have E1 := hid (leadSt_succ e1)
        clear e1
        have hzs := st.lt.2
        have hwT := lt_of_cell dT
        have HA : Hid (Below wr.heap.size wr (wr.alloc (.cells #[.int .i64 x1, .int .i64 y1] 50))) := hid (Below.alloc (Below.refl _ _) (Nat.le_refl _) _)
        have S0 := hid (st.kept HA.out)
        have B4 : Hid (Below w.heap.size w (wr.alloc (.cells #[.int .i64 x1, .int .i64 y1] 50))) := hid (kt hb HA.out)
        have dx : (wr.alloc (.cells #[.int .i64 x1, .int .i64 y1] 50)).cell? ⟨wr.heap.size, 0, none⟩ = some (.int .i64 x1) := by simp [go_sem]
        have dF' := kept_cell HA.out dF
        have dT' := kept_cell HA.out dT
        have D := hid (And.intro dx (And.intro dF' dT'))
        clear dx dF' dT' st
        cases hbr : isBr x1
        · by_cases k16 : x1 = 16
          · subst k16
            go_wp2_with (first | (go_at_call 26; refine (isBranch_any _ _).mono ?_; rintro e w' ⟨rfl, hw⟩; rw [hw]; clear hw))
            refine (lead_any (q + 1) w.heap.size (w1.heap.size + 1) w1.heap.size n c w.heap.size _ _ _ D.out.2.1 D.out.2.2 hlen.2 S0.out).mono ?_
            rintro e w3 ⟨rfl, st3, fr3⟩
            have R : Hid (wr.heap.size ≤ w3.heap.size) := hid (by have := fr3.size; simp at this; omega)
            go_wp2_with fail
            go_roundw
            case rel => exact ⟨q + 1, by omega, by go_num, fr3.cell D.out.2.1 (by omega), fr3.cell D.out.2.2 (by omega), by rw [E1.out, leadStep_ret]; exact st3, B4.out.trans (fr3.below (by have := B4.out.size; omega) (fun k hk => by omega))⟩
            case measure => simp [intOf]; omega
          · have k16' : (x1 == 16) = false := by simp [k16]
            go_wp2_with (first | (go_at_call 26; refine (isBranch_any _ _).mono ?_; rintro e w' ⟨rfl, hw⟩; rw [hw]; clear hw))
            go_roundw
            case rel => exact ⟨q + 1, by omega, by go_num, D.out.2.1, D.out.2.2, by rw [E1.out, leadStep_no hbr k16]; exact S0.out, B4.out⟩
            case measure => simp [intOf]; omega
        · go_wp2_with (first | (go_at_call 26; refine (isBranch_any _ _).mono ?_; rintro e w' ⟨rfl, hw⟩; rw [hw]; clear hw))
          refine (lead_any y1 w.heap.size (w1.heap.size + 1) w1.heap.size n c w.heap.size _ _ _ D.out.2.1 D.out.2.2 hlen.2 S0.out).mono ?_
          rintro e w3 ⟨rfl, st3, fr3⟩
          have g0 := fr3.cell D.out.1 (by omega)
          have g1 := fr3.cell D.out.2.1 (by omega)
          have g2 := fr3.cell D.out.2.2 (by omega)
          have B5 : Hid (Below w.heap.size w w3) := hid (B4.out.trans (fr3.below (by have := B4.out.size; omega) (fun k hk => by omega)))
          have G := hid (And.intro g1 g2)
          have S3 := hid st3
          clear fr3 st3 g1 g2
          go_wp2_with (first | (go_at_call 26; refine (isBranch_any _ _).mono ?_; rintro e w' ⟨rfl, hw⟩; rw [hw]; clear hw))
          refine (lead_any (q + 1) w.heap.size (w1.heap.size + 1) w1.heap.size n c w.heap.size _ _ _ G.out.1 G.out.2 hlen.2 S3.out).mono ?_
          rintro e w4 ⟨rfl, st4, fr4⟩
          go_wp2_with fail
          go_roundw
          case rel => exact ⟨q + 1, by omega, by go_num, fr4.cell G.out.1 (by omega), fr4.cell G.out.2 (by omega), by rw [E1.out, leadStep_br hbr]; exact st4, B5.out.trans (fr4.below (by have := B5.out.size; omega) (fun k hk => by omega))⟩
          case measure => simp [intOf]; omega
      · have hqn : q = n := by omega
        subst hqn
        have ST := hid st
        clear st
        go_wp2_with fail
        go_ret2
        refine ⟨_, rfl, ?_, hb⟩
        have := ST.out.row
        rw [L.out] at this ⊢
        rw [leadSt_len]
        exact this

end Go.Proofs.Ytclpnmideableaa
