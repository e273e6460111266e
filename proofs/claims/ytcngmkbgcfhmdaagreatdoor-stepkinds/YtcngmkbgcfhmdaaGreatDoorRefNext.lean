/- What the document's own Next returns. -/
import Derived.Test.YtcngmkbgcfhmdaaGreatDoorJ4
namespace Go.Proofs.YtcngmkbgcfhmdaaGreatDoor
open Go.RowKit
set_option linter.unusedVariables false

theorem br_nonneg {l : List (Int × Int)} {p : Nat} {k a : Int} (hc : codeB l = true) (hp : p < l.length) (e : l.getD p (0, 0) = (k, a)) (hk : k = 12 ∨ k = 13) : 0 ≤ a := by
  unfold codeB at hc
  simp only [Bool.and_eq_true, List.all_eq_true] at hc
  have := hc.2 (l.getD p (0, 0)) (by simp [List.getD_eq_getElem?_getD, hp])
  rw [e] at this
  rcases hk with rfl | rfl
  · simp [may12, belowB] at this; omega
  · simp [may13, belowB] at this; omega

set_option maxRecDepth 100000 in
set_option maxHeartbeats 4000000 in
theorem refNext_any (x y pc : Int) (a : Option Addr) (n c : Nat) (l : List (Int × Int)) (w : World) (h : Inss w a n c l) :
    Calls Tryz.prog 99 #[.agg #[.int .i64 x, .int .i64 y, .slice a n c], .int .i64 pc] w fun e w' => ∃ v, e = .returned (.tuple #[v, .int .i64 (nxE l pc)]) ∧ w'.ownsRow w.heap.size 3 1 v (nxL l pc).length (ints (nxL l pc)) ∧ Below w.heap.size w w' := by
  obtain ⟨i0, hi, hz0, hz1, hz2⟩ := info_parts Tryz.infoInt
  have L := hid h.len
  have hr := h.room
  have hcp := h.cap
  cases hc : codeB l
  · have E : nxOk l pc = false := by simp [nxOk, hc]
    rw [show nxE l pc = 400 by simp [nxE, E], show nxL l pc = [] by simp [nxL, E]]
    go_enter Tryz.func99, Tryz.ntmps99
    go_wp2_with fail
    refine (refFuncMay_any _ _ _ _ _ l _ (h.kept (by go_grown))).mono ?_
    rintro e w1 ⟨rfl, hb⟩
    have B : Hid (Below w.heap.size w w1) := hid (kt (by go_grown) hb)
    clear hb
    go_wp2_with fail
    go_ret2
    exact ⟨_, rfl, World.ownsRow_nil _ _ _ _, B.out⟩
  by_cases hneg : pc < 0
  · have E : nxOk l pc = false := by rw [nxOk, hc, show inB l.length pc = false by simp [inB]; omega]; rfl
    rw [show nxE l pc = 400 by simp [nxE, E], show nxL l pc = [] by simp [nxL, E]]
    go_enter Tryz.func99, Tryz.ntmps99
    go_wp2_with fail
    refine (refFuncMay_any _ _ _ _ _ l _ (h.kept (by go_grown))).mono ?_
    rintro e w1 ⟨rfl, hb⟩
    have B : Hid (Below w.heap.size w w1) := hid (kt (by go_grown) hb)
    clear hb
    go_wp2_with fail
    go_ret2
    exact ⟨_, rfl, World.ownsRow_nil _ _ _ _, B.out⟩
  obtain ⟨p, rfl⟩ : ∃ p : Nat, pc = p := ⟨pc.toNat, by omega⟩
  clear hneg
  by_cases hp : p < n
  rotate_left
  · have E : nxOk l p = false := by rw [nxOk, hc, show inB l.length p = false by simp [inB]; have := L.out; omega]; rfl
    rw [show nxE l p = 400 by simp [nxE, E], show nxL l p = [] by simp [nxL, E]]
    go_enter Tryz.func99, Tryz.ntmps99
    go_wp2_with fail
    refine (refFuncMay_any _ _ _ _ _ l _ (h.kept (by go_grown))).mono ?_
    rintro e w1 ⟨rfl, hb⟩
    have B : Hid (Below w.heap.size w w1) := hid (kt (by go_grown) hb)
    have d := kept_cell hb (b := w.heap.size) (o := 2) (v := .slice a n c) (by simp [go_sem])
    clear hb
    go_wp2_with fail
    go_ret2
    exact ⟨_, rfl, World.ownsRow_nil _ _ _ _, B.out⟩
  have E : nxOk l p = true := by rw [nxOk, hc, show inB l.length p = true by simp [inB]; have := L.out; omega]; rfl
  obtain ⟨b1, o1, k, A, rfl, e1, c1, c2⟩ := h.at p hp
  have A0 := hid (br_nonneg hc (by have := L.out; omega) e1)
  rw [show nxE l p = 0 by simp [nxE, E], show nxL l p = nextL l p by simp [nxL, E], nextL_at L.out e1]
  have hlt1 := lt_of_cell c1
  have HI := hid h
  have HC := hid hc
  generalize hys : nextOf n p k A = ys
  have HY := hid hys
  clear E e1 h hys
  go_enter Tryz.func99, Tryz.ntmps99
  go_wp2_with fail
  refine (refFuncMay_any _ _ _ _ _ l _ (HI.out.kept (by go_grown))).mono ?_
  rintro e w1 ⟨rfl, hb⟩
  rw [hc]
  clear hc
  have B : Hid (Below w.heap.size w w1) := hid (kt (by go_grown) hb)
  have d := kept_cell hb (b := w.heap.size) (o := 2) (v := .slice (some ⟨b1, o1, none⟩) n c) (by simp [go_sem])
  have hs : w.heap.size < w1.heap.size := by have := hb.size; simp at this; omega
  replace c1 := kept_cell B.out c1
  replace c2 := kept_cell B.out c2
  clear hb
  have hx : Hid (∀ o : Obj, Below w.heap.size w (w1.alloc o)) := hid (fun o => kt B.out (Below.alloc (Below.refl _ _) (Nat.le_refl _) o))
  have BX := hid (hx.out (.cells #[.int .i64 k, .int .i64 A] 45))
  clear hx
  have NIL : Hid (ys = [] → ∀ u : World, u.ownsRow w.heap.size 3 1 (.slice none 0 0) ys.length (ints ys)) := hid (fun e u => by rw [e]; exact World.ownsRow_nil _ _ _ _)
  by_cases k16 : k = 16
  · subst k16
    go_wp2_with fail
    go_quiet (fail)
    go_wp2_with fail
    go_ret2
    exact ⟨_, rfl, NIL.out (by rw [← HY.out, nextOf_no rfl, fallL_no (.inr rfl)]) _, below_drewN BX.out _⟩
  by_cases k12 : k = 12
  · subst k12
    have hA := A0.out (.inl rfl)
    by_cases hAn : A < n
    · go_wp2_with fail
      go_quiet (fail)
      go_wp2_with (first | (at_builtin; go_must ((refine wpList_append_lies _ rfl _ _ 26 rfl w.heap.size 3 i0 (.int .i64 0) 1 8 Tryz.underlying26 hi hz0 hz1 hz2 rfl (by decide) (.slice none 0 0) 0 [] rfl (World.ownsRow_nil _ _ _ _) ⟨w1.heap.size + 1, 0, none⟩ 1 1 [.int .i64 A] rfl rfl (news_new (by simp) [.int .i64 A] 3) (by intro u hu; simp at hu; subst hu; rfl) (by decide) (by unfold maxLen; omega) (by omega) (by simp; omega) (w1.heap.size + 2) (by simp) ?_; intro g cap w6 ho6 hg6 hat hlt6; have P := hid (And.intro ho6 (And.intro hg6 hlt6)); clear ho6 hg6 hat hlt6))))
      obtain ⟨p1, p2, p3⟩ := P.out
      go_ret2
      exact ⟨_, rfl, by rw [← HY.out, nextOf_br rfl, fallL_no (.inl rfl), addN_yes (by simp [inB]; omega) rfl]; exact p1, Below.grown (Below.alloc (below_drewN BX.out _) (by simp; omega) _) p2 (by simp; omega) (fun k hk => by cases hk)⟩
    · have hd : decide (A < (n : Int)) = false := by simpa using hAn
      go_wp2_with fail
      go_quiet (fail)
      go_wp2_with fail
      go_ret2
      exact ⟨_, rfl, NIL.out (by rw [← HY.out, nextOf_br rfl, fallL_no (.inl rfl), addN_out (by simp [inB]; omega)]) _, below_drewN BX.out _⟩
  have m16 : (k != 16) = true := by simp [k16]
  have m12 : (k != 12) = true := by simp [k12]
  have n12 : (k == 12) = false := by simp [k12]
  by_cases hf : p + 1 < n
  rotate_left
  · by_cases k13 : k = 13
    · subst k13
      have hA := A0.out (.inr rfl)
      by_cases hAn : A < n
      · go_wp2_with fail
        go_quiet (fail)
        go_wp2_with (first | (at_builtin; go_must ((refine wpList_append_lies _ rfl _ _ 26 rfl w.heap.size 3 i0 (.int .i64 0) 1 8 Tryz.underlying26 hi hz0 hz1 hz2 rfl (by decide) (.slice none 0 0) 0 [] rfl (World.ownsRow_nil _ _ _ _) ⟨w1.heap.size + 1, 0, none⟩ 1 1 [.int .i64 A] rfl rfl (news_new (by simp) [.int .i64 A] 3) (by intro u hu; simp at hu; subst hu; rfl) (by decide) (by unfold maxLen; omega) (by omega) (by simp; omega) (w1.heap.size + 2) (by simp) ?_; intro g cap w6 ho6 hg6 hat hlt6; have P := hid (And.intro ho6 (And.intro hg6 hlt6)); clear ho6 hg6 hat hlt6))))
        obtain ⟨p1, p2, p3⟩ := P.out
        go_ret2
        exact ⟨_, rfl, by rw [← HY.out, nextOf_br rfl, fallL_yes (by omega) (by omega), addN_out (n := n) (xs := []) (a := (p : Int) + 1) (by simp [inB]; omega), addN_yes (by simp [inB]; omega) rfl]; exact p1, Below.grown (Below.alloc (below_drewN BX.out _) (by simp; omega) _) p2 (by simp; omega) (fun k hk => by cases hk)⟩
      · have hd : decide (A < (n : Int)) = false := by simpa using hAn
        go_wp2_with fail
        go_quiet (fail)
        go_wp2_with fail
        go_ret2
        exact ⟨_, rfl, NIL.out (by rw [← HY.out, nextOf_br rfl, fallL_yes (by omega) (by omega), addN_out (n := n) (xs := []) (a := (p : Int) + 1) (by simp [inB]; omega), addN_out (by simp [inB]; omega)]) _, below_drewN BX.out _⟩
    · have n13 : (k == 13) = false := by simp [k13]
      go_wp2_with fail
      go_quiet (fail)
      go_wp2_with fail
      go_ret2
      exact ⟨_, rfl, NIL.out (by rw [← HY.out, nextOf_no (by simp [isBr]; omega), fallL_yes (by omega) (by omega), addN_out (n := n) (xs := []) (a := (p : Int) + 1) (by simp [inB]; omega)]) _, below_drewN BX.out _⟩
  have J : Hid (((w1.alloc (.cells #[.int .i64 k, .int .i64 A] 45)).alloc (.cells #[.int .i64 ((p : Int) + 1)] 3)).cell? ⟨w1.heap.size, 0, none⟩ = some (.int .i64 k) ∧ ((w1.alloc (.cells #[.int .i64 k, .int .i64 A] 45)).alloc (.cells #[.int .i64 ((p : Int) + 1)] 3)).cell? ⟨w1.heap.size, 1, none⟩ = some (.int .i64 A) ∧ ((w1.alloc (.cells #[.int .i64 k, .int .i64 A] 45)).alloc (.cells #[.int .i64 ((p : Int) + 1)] 3)).cell? ⟨w.heap.size, 2, none⟩ = some (.slice (some ⟨b1, o1, none⟩) n c)) :=
    hid ⟨by simp [go_sem], by simp [go_sem], kept_cell (by go_grown) d⟩
  have BY : Hid (Below w.heap.size w ((w1.alloc (.cells #[.int .i64 k, .int .i64 A] 45)).alloc (.cells #[.int .i64 ((p : Int) + 1)] 3))) := hid (Below.alloc BX.out (by simp; omega) _)
  go_wp2_with (first | (at_builtin; go_must ((refine wpList_append_lies _ rfl _ _ 26 rfl w.heap.size 3 i0 (.int .i64 0) 1 8 Tryz.underlying26 hi hz0 hz1 hz2 rfl (by decide) (.slice none 0 0) 0 [] rfl (World.ownsRow_nil _ _ _ _) ⟨w1.heap.size + 1, 0, none⟩ 1 1 [.int .i64 ((p : Int) + 1)] rfl rfl (news_new (by simp) [.int .i64 ((p : Int) + 1)] 3) (by intro u hu; simp at hu; subst hu; rfl) (by decide) (by unfold maxLen; omega) (by omega) (by simp; omega) (w1.heap.size + 2) (by simp) ?_; intro g cap w6 ho6 hg6 hat hlt6; have q0 := hg6.cell J.out.1 (by simp [Value.ownBlock]); have q1 := hg6.cell J.out.2.1 (by simp [Value.ownBlock]); have q2 := hg6.cell J.out.2.2 (by simp [Value.ownBlock]); have q3 := (ho6.cellAt 0 (by decide)).trans rfl; have P := hid (And.intro ho6 (And.intro hg6 (And.intro hat hlt6))); clear ho6 hg6 hat hlt6))))
  have q3' : w6.cell? ⟨g, 0, none⟩ = some (.int .i64 ((p : Int) + 1)) := q3
  clear q3
  have BW : Hid (Below w.heap.size w w6) := hid (Below.grown BY.out P.out.2.1 (by simp; omega) (fun k hk => by cases hk))
  have hcap : 1 ≤ cap := by
    rcases P.out.1.2 with ⟨e, _⟩ | ⟨_, _, _, e, _, _, r, _⟩
    · cases e
    · cases e; exact r
  have ONE : Hid (ys = [(p : Int) + 1] → ∀ d, (w6.drewN d).ownsRow w.heap.size 3 1 (.slice (some ⟨g, 0, none⟩) (0 + 1) cap) ys.length (ints ys)) := hid (fun e d => by rw [e]; exact P.out.1)
  have hs6 : w1.heap.size + 2 ≤ w6.heap.size := by have := P.out.2.1.size; simp at this; omega
  have hg6 : g < w6.heap.size := P.out.2.2.2
  by_cases k13 : k = 13
  · subst k13
    have hA := A0.out (.inr rfl)
    by_cases hAn : A < n
    · by_cases hAp : A = (p : Int) + 1
      · subst hAp
        go_quiet (fail)
        go_wp2_with fail
        go_ret2
        exact ⟨_, rfl, ONE.out (by rw [← HY.out, nextOf_br rfl, fallL_yes (by omega) (by omega), addN_yes (n := n) (xs := []) (a := (p : Int) + 1) (by simp [inB]; omega) rfl, addN_has (by simp [hasB])]; rfl) _, below_drewN BW.out _⟩
      · have nA : ((p : Int) + 1 != A) = true := by simp; omega
        go_quiet (fail)
        have HO : Hid (∀ d, ((w6.drewN d).alloc (.cells #[.int .i64 A] 3)).ownsRow w.heap.size 3 1 (.slice (some ⟨g, 0, none⟩) (0 + 1) cap) (0 + 1) ([] ++ [.int .i64 ((p : Int) + 1)])) := hid (fun d => World.ownsRow.alloc (show (w6.drewN d).ownsRow w.heap.size 3 1 (.slice (some ⟨g, 0, none⟩) (0 + 1) cap) (0 + 1) ([] ++ [.int .i64 ((p : Int) + 1)]) from P.out.1) _)
        go_wp2_with (first | (at_builtin; go_must ((refine wpList_append_lies _ rfl _ _ 26 rfl w.heap.size 3 i0 (.int .i64 0) 1 8 Tryz.underlying26 hi hz0 hz1 hz2 rfl (by decide) (.slice (some ⟨g, 0, none⟩) 1 cap) 1 [.int .i64 ((p : Int) + 1)] rfl (HO.out _) ⟨w6.heap.size, 0, none⟩ 1 1 [.int .i64 A] rfl rfl (news_new (by simp) [.int .i64 A] 3) (by intro u hu; simp at hu; subst hu; rfl) (by decide) (by unfold maxLen; omega) (by omega) (by simp; omega) (w6.heap.size + 1) (by simp) ?_; intro g2 cap2 w8 ho8 hg8 hat hlt8; have P8 := hid (And.intro ho8 (And.intro hg8 hlt8)); clear ho8 hg8 hat hlt8))))
        obtain ⟨p1, p2, p3⟩ := P8.out
        go_ret2
        exact ⟨_, rfl, by rw [← HY.out, nextOf_br rfl, fallL_yes (by omega) (by omega), addN_yes (n := n) (xs := []) (a := (p : Int) + 1) (by simp [inB]; omega) rfl, addN_yes (by simp [inB]; omega) (by simp [hasB]; omega)]; exact p1, Below.grown (Below.alloc (below_drewN BW.out _) (by simp; omega) _) p2 (by simp; omega) (fun k hk => by cases hk; exact (P.out.1.lt g rfl).1)⟩
    · have hd : decide (A < (n : Int)) = false := by simpa using hAn
      go_quiet (fail)
      go_wp2_with fail
      go_ret2
      exact ⟨_, rfl, ONE.out (by rw [← HY.out, nextOf_br rfl, fallL_yes (by omega) (by omega), addN_yes (n := n) (xs := []) (a := (p : Int) + 1) (by simp [inB]; omega) rfl, addN_out (by simp [inB]; omega)]; rfl) _, below_drewN BW.out _⟩
  · have n13 : (k == 13) = false := by simp [k13]
    go_quiet (fail)
    go_wp2_with fail
    go_ret2
    exact ⟨_, rfl, ONE.out (by rw [← HY.out, nextOf_no (by simp [isBr]; omega), fallL_yes (by omega) (by omega), addN_yes (n := n) (xs := []) (a := (p : Int) + 1) (by simp [inB]; omega) rfl]; rfl) _, below_drewN BW.out _⟩

end Go.Proofs.YtcngmkbgcfhmdaaGreatDoor
