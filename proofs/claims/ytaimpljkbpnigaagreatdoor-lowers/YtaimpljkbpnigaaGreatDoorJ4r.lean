/- What the document's own Next returns. What the document's own Reached returns: a queue that is cut at its head. What the document's own Reached returns: the whole. -/
import Derived.Test.YtaimpljkbpnigaaGreatDoorJ4
import Derived.Deep.AppendSrc
import Derived.Deep.MidRow
namespace Go.Proofs.YtaimpljkbpnigaaGreatDoor
open Go.RowKit
set_option linter.unusedVariables false

theorem br_nonneg {l : List (Int × Int)} {p : Nat} {k a : Int} (hc : codeB l = true) (hp : p < l.length) (e : l.getD p (0, 0) = (k, a)) (hk : k = 12 ∨ k = 13) : 0 ≤ a := by
  unfold codeB at hc
  simp only [Bool.and_eq_true, List.all_eq_true] at hc
  have := hc.2 (l.getD p (0, 0)) (by simp [List.getD_eq_getElem?_getD, hp])
  rw [e] at this
  rcases hk with rfl | rfl
  · simp [may12, belowB] at this; omega
  · simp [may13, belowB] at this; omega

set_option maxRecDepth 100000 in
set_option maxHeartbeats 4000000 in
theorem refNext_any (x y pc : Int) (a : Option Addr) (n c : Nat) (l : List (Int × Int)) (w : World) (h : Inss w a n c l) :
    Calls Tryz.prog 74 #[.agg #[.int .i64 x, .int .i64 y, .slice a n c], .int .i64 pc] w fun e w' => ∃ v, e = .returned (.tuple #[v, .int .i64 (nxE l pc)]) ∧ w'.ownsRow w.heap.size 3 1 v (nxL l pc).length (ints (nxL l pc)) ∧ Below w.heap.size w w' := by
  obtain ⟨i0, hi, hz0, hz1, hz2⟩ := info_parts Tryz.infoInt
  have L := hid h.len
  have hr := h.room
  have hcp := h.cap
  cases hc : codeB l
  · have E : nxOk l pc = false := by simp [nxOk, hc]
    rw [show nxE l pc = 400 by simp [nxE, E], show nxL l pc = [] by simp [nxL, E]]
    go_enter Tryz.func74, Tryz.ntmps74
    go_wp2_with fail
    refine (refFuncMay_any _ _ _ _ _ l _ (h.kept (by go_grown))).mono ?_
    rintro e w1 ⟨rfl, hb⟩
    have B : Hid (Below w.heap.size w w1) := hid (kt (by go_grown) hb)
    clear hb
    go_wp2_with fail
    go_ret2
    exact ⟨_, rfl, World.ownsRow_nil _ _ _ _, B.out⟩
  by_cases hneg : pc < 0
  · have E : nxOk l pc = false := by rw [nxOk, hc, show inB l.length pc = false by simp [inB]; omega]; rfl
    rw [show nxE l pc = 400 by simp [nxE, E], show nxL l pc = [] by simp [nxL, E]]
    go_enter Tryz.func74, Tryz.ntmps74
    go_wp2_with fail
    refine (refFuncMay_any _ _ _ _ _ l _ (h.kept (by go_grown))).mono ?_
    rintro e w1 ⟨rfl, hb⟩
    have B : Hid (Below w.heap.size w w1) := hid (kt (by go_grown) hb)
    clear hb
    go_wp2_with fail
    go_ret2
    exact ⟨_, rfl, World.ownsRow_nil _ _ _ _, B.out⟩
  obtain ⟨p, rfl⟩ : ∃ p : Nat, pc = p := ⟨pc.toNat, by omega⟩
  clear hneg
  by_cases hp : p < n
  rotate_left
  · have E : nxOk l p = false := by rw [nxOk, hc, show inB l.length p = false by simp [inB]; have := L.out; omega]; rfl
    rw [show nxE l p = 400 by simp [nxE, E], show nxL l p = [] by simp [nxL, E]]
    go_enter Tryz.func74, Tryz.ntmps74
    go_wp2_with fail
    refine (refFuncMay_any _ _ _ _ _ l _ (h.kept (by go_grown))).mono ?_
    rintro e w1 ⟨rfl, hb⟩
    have B : Hid (Below w.heap.size w w1) := hid (kt (by go_grown) hb)
    have d := kept_cell hb (b := w.heap.size) (o := 2) (v := .slice a n c) (by simp [go_sem])
    clear hb
    go_wp2_with fail
    go_ret2
    exact ⟨_, rfl, World.ownsRow_nil _ _ _ _, B.out⟩
  have E : nxOk l p = true := by rw [nxOk, hc, show inB l.length p = true by simp [inB]; have := L.out; omega]; rfl
  obtain ⟨b1, o1, k, A, rfl, e1, c1, c2⟩ := h.at p hp
  have A0 := hid (br_nonneg hc (by have := L.out; omega) e1)
  rw [show nxE l p = 0 by simp [nxE, E], show nxL l p = nextL l p by simp [nxL, E], nextL_at L.out e1]
  have hlt1 := lt_of_cell c1
  have HI := hid h
  have HC := hid hc
  generalize hys : nextOf n p k A = ys
  have HY := hid hys
  clear E e1 h hys
  go_enter Tryz.func74, Tryz.ntmps74
  go_wp2_with fail
  refine (refFuncMay_any _ _ _ _ _ l _ (HI.out.kept (by go_grown))).mono ?_
  rintro e w1 ⟨rfl, hb⟩
  rw [hc]
  clear hc
  have B : Hid (Below w.heap.size w w1) := hid (kt (by go_grown) hb)
  have d := kept_cell hb (b := w.heap.size) (o := 2) (v := .slice (some ⟨b1, o1, none⟩) n c) (by simp [go_sem])
  have hs : w.heap.size < w1.heap.size := by have := hb.size; simp at this; omega
  replace c1 := kept_cell B.out c1
  replace c2 := kept_cell B.out c2
  clear hb
  have hx : Hid (∀ o : Obj, Below w.heap.size w (w1.alloc o)) := hid (fun o => kt B.out (Below.alloc (Below.refl _ _) (Nat.le_refl _) o))
  have BX := hid (hx.out (.cells #[.int .i64 k, .int .i64 A] 47))
  clear hx
  have NIL : Hid (ys = [] → ∀ u : World, u.ownsRow w.heap.size 3 1 (.slice none 0 0) ys.length (ints ys)) := hid (fun e u => by rw [e]; exact World.ownsRow_nil _ _ _ _)
  by_cases k16 : k = 16
  · subst k16
    go_wp2_with fail
    go_quiet (fail)
    go_wp2_with fail
    go_ret2
    exact ⟨_, rfl, NIL.out (by rw [← HY.out, nextOf_no rfl, fallL_no (.inr rfl)]) _, below_drewN BX.out _⟩
  by_cases k12 : k = 12
  · subst k12
    have hA := A0.out (.inl rfl)
    by_cases hAn : A < n
    · go_wp2_with fail
      go_quiet (fail)
      go_wp2_with (first | (at_builtin; go_must ((refine wpList_append_lies _ rfl _ _ 42 rfl w.heap.size 3 i0 (.int .i64 0) 1 8 Tryz.underlying42 hi hz0 hz1 hz2 rfl (by decide) (.slice none 0 0) 0 [] rfl (World.ownsRow_nil _ _ _ _) ⟨w1.heap.size + 1, 0, none⟩ 1 1 [.int .i64 A] rfl rfl (news_new (by simp) [.int .i64 A] 3) (by intro u hu; simp at hu; subst hu; rfl) (by decide) (by unfold maxLen; omega) (by omega) (by simp; omega) (w1.heap.size + 2) (by simp) ?_; intro g cap w6 ho6 hg6 hat hlt6; have P := hid (And.intro ho6 (And.intro hg6 hlt6)); clear ho6 hg6 hat hlt6))))
      obtain ⟨p1, p2, p3⟩ := P.out
      go_ret2
      exact ⟨_, rfl, by rw [← HY.out, nextOf_br rfl, fallL_no (.inl rfl), addN_yes (by simp [inB]; omega) rfl]; exact p1, Below.grown (Below.alloc (below_drewN BX.out _) (by simp; omega) _) p2 (by simp; omega) (fun k hk => by cases hk)⟩
    · have hd : decide (A < (n : Int)) = false := by simpa using hAn
      go_wp2_with fail
      go_quiet (fail)
      go_wp2_with fail
      go_ret2
      exact ⟨_, rfl, NIL.out (by rw [← HY.out, nextOf_br rfl, fallL_no (.inl rfl), addN_out (by simp [inB]; omega)]) _, below_drewN BX.out _⟩
  have m16 : (k != 16) = true := by simp [k16]
  have m12 : (k != 12) = true := by simp [k12]
  have n12 : (k == 12) = false := by simp [k12]
  by_cases hf : p + 1 < n
  rotate_left
  · by_cases k13 : k = 13
    · subst k13
      have hA := A0.out (.inr rfl)
      by_cases hAn : A < n
      · go_wp2_with fail
        go_quiet (fail)
        go_wp2_with (first | (at_builtin; go_must ((refine wpList_append_lies _ rfl _ _ 42 rfl w.heap.size 3 i0 (.int .i64 0) 1 8 Tryz.underlying42 hi hz0 hz1 hz2 rfl (by decide) (.slice none 0 0) 0 [] rfl (World.ownsRow_nil _ _ _ _) ⟨w1.heap.size + 1, 0, none⟩ 1 1 [.int .i64 A] rfl rfl (news_new (by simp) [.int .i64 A] 3) (by intro u hu; simp at hu; subst hu; rfl) (by decide) (by unfold maxLen; omega) (by omega) (by simp; omega) (w1.heap.size + 2) (by simp) ?_; intro g cap w6 ho6 hg6 hat hlt6; have P := hid (And.intro ho6 (And.intro hg6 hlt6)); clear ho6 hg6 hat hlt6))))
        obtain ⟨p1, p2, p3⟩ := P.out
        go_ret2
        exact ⟨_, rfl, by rw [← HY.out, nextOf_br rfl, fallL_yes (by omega) (by omega), addN_out (n := n) (xs := []) (a := (p : Int) + 1) (by simp [inB]; omega), addN_yes (by simp [inB]; omega) rfl]; exact p1, Below.grown (Below.alloc (below_drewN BX.out _) (by simp; omega) _) p2 (by simp; omega) (fun k hk => by cases hk)⟩
      · have hd : decide (A < (n : Int)) = false := by simpa using hAn
        go_wp2_with fail
        go_quiet (fail)
        go_wp2_with fail
        go_ret2
        exact ⟨_, rfl, NIL.out (by rw [← HY.out, nextOf_br rfl, fallL_yes (by omega) (by omega), addN_out (n := n) (xs := []) (a := (p : Int) + 1) (by simp [inB]; omega), addN_out (by simp [inB]; omega)]) _, below_drewN BX.out _⟩
    · have n13 : (k == 13) = false := by simp [k13]
      go_wp2_with fail
      go_quiet (fail)
      go_wp2_with fail
      go_ret2
      exact ⟨_, rfl, NIL.out (by rw [← HY.out, nextOf_no (by simp [isBr]; omega), fallL_yes (by omega) (by omega), addN_out (n := n) (xs := []) (a := (p : Int) + 1) (by simp [inB]; omega)]) _, below_drewN BX.out _⟩
  have J : Hid (((w1.alloc (.cells #[.int .i64 k, .int .i64 A] 47)).alloc (.cells #[.int .i64 ((p : Int) + 1)] 3)).cell? ⟨w1.heap.size, 0, none⟩ = some (.int .i64 k) ∧ ((w1.alloc (.cells #[.int .i64 k, .int .i64 A] 47)).alloc (.cells #[.int .i64 ((p : Int) + 1)] 3)).cell? ⟨w1.heap.size, 1, none⟩ = some (.int .i64 A) ∧ ((w1.alloc (.cells #[.int .i64 k, .int .i64 A] 47)).alloc (.cells #[.int .i64 ((p : Int) + 1)] 3)).cell? ⟨w.heap.size, 2, none⟩ = some (.slice (some ⟨b1, o1, none⟩) n c)) :=
    hid ⟨by simp [go_sem], by simp [go_sem], kept_cell (by go_grown) d⟩
  have BY : Hid (Below w.heap.size w ((w1.alloc (.cells #[.int .i64 k, .int .i64 A] 47)).alloc (.cells #[.int .i64 ((p : Int) + 1)] 3))) := hid (Below.alloc BX.out (by simp; omega) _)
  go_wp2_with (first | (at_builtin; go_must ((refine wpList_append_lies _ rfl _ _ 42 rfl w.heap.size 3 i0 (.int .i64 0) 1 8 Tryz.underlying42 hi hz0 hz1 hz2 rfl (by decide) (.slice none 0 0) 0 [] rfl (World.ownsRow_nil _ _ _ _) ⟨w1.heap.size + 1, 0, none⟩ 1 1 [.int .i64 ((p : Int) + 1)] rfl rfl (news_new (by simp) [.int .i64 ((p : Int) + 1)] 3) (by intro u hu; simp at hu; subst hu; rfl) (by decide) (by unfold maxLen; omega) (by omega) (by simp; omega) (w1.heap.size + 2) (by simp) ?_; intro g cap w6 ho6 hg6 hat hlt6; have q0 := hg6.cell J.out.1 (by simp [Value.ownBlock]); have q1 := hg6.cell J.out.2.1 (by simp [Value.ownBlock]); have q2 := hg6.cell J.out.2.2 (by simp [Value.ownBlock]); have q3 := (ho6.cellAt 0 (by decide)).trans rfl; have P := hid (And.intro ho6 (And.intro hg6 (And.intro hat hlt6))); clear ho6 hg6 hat hlt6))))
  have q3' : w6.cell? ⟨g, 0, none⟩ = some (.int .i64 ((p : Int) + 1)) := q3
  clear q3
  have BW : Hid (Below w.heap.size w w6) := hid (Below.grown BY.out P.out.2.1 (by simp; omega) (fun k hk => by cases hk))
  have hcap : 1 ≤ cap := by
    rcases P.out.1.2 with ⟨e, _⟩ | ⟨_, _, _, e, _, _, r, _⟩
    · cases e
    · cases e; exact r
  have ONE : Hid (ys = [(p : Int) + 1] → ∀ d, (w6.drewN d).ownsRow w.heap.size 3 1 (.slice (some ⟨g, 0, none⟩) (0 + 1) cap) ys.length (ints ys)) := hid (fun e d => by rw [e]; exact P.out.1)
  have hs6 : w1.heap.size + 2 ≤ w6.heap.size := by have := P.out.2.1.size; simp at this; omega
  have hg6 : g < w6.heap.size := P.out.2.2.2
  by_cases k13 : k = 13
  · subst k13
    have hA := A0.out (.inr rfl)
    by_cases hAn : A < n
    · by_cases hAp : A = (p : Int) + 1
      · subst hAp
        go_quiet (fail)
        go_wp2_with fail
        go_ret2
        exact ⟨_, rfl, ONE.out (by rw [← HY.out, nextOf_br rfl, fallL_yes (by omega) (by omega), addN_yes (n := n) (xs := []) (a := (p : Int) + 1) (by simp [inB]; omega) rfl, addN_has (by simp [hasB])]; rfl) _, below_drewN BW.out _⟩
      · have nA : ((p : Int) + 1 != A) = true := by simp; omega
        go_quiet (fail)
        have HO : Hid (∀ d, ((w6.drewN d).alloc (.cells #[.int .i64 A] 3)).ownsRow w.heap.size 3 1 (.slice (some ⟨g, 0, none⟩) (0 + 1) cap) (0 + 1) ([] ++ [.int .i64 ((p : Int) + 1)])) := hid (fun d => World.ownsRow.alloc (show (w6.drewN d).ownsRow w.heap.size 3 1 (.slice (some ⟨g, 0, none⟩) (0 + 1) cap) (0 + 1) ([] ++ [.int .i64 ((p : Int) + 1)]) from P.out.1) _)
        go_wp2_with (first | (at_builtin; go_must ((refine wpList_append_lies _ rfl _ _ 42 rfl w.heap.size 3 i0 (.int .i64 0) 1 8 Tryz.underlying42 hi hz0 hz1 hz2 rfl (by decide) (.slice (some ⟨g, 0, none⟩) 1 cap) 1 [.int .i64 ((p : Int) + 1)] rfl (HO.out _) ⟨w6.heap.size, 0, none⟩ 1 1 [.int .i64 A] rfl rfl (news_new (by simp) [.int .i64 A] 3) (by intro u hu; simp at hu; subst hu; rfl) (by decide) (by unfold maxLen; omega) (by omega) (by simp; omega) (w6.heap.size + 1) (by simp) ?_; intro g2 cap2 w8 ho8 hg8 hat hlt8; have P8 := hid (And.intro ho8 (And.intro hg8 hlt8)); clear ho8 hg8 hat hlt8))))
        obtain ⟨p1, p2, p3⟩ := P8.out
        go_ret2
        exact ⟨_, rfl, by rw [← HY.out, nextOf_br rfl, fallL_yes (by omega) (by omega), addN_yes (n := n) (xs := []) (a := (p : Int) + 1) (by simp [inB]; omega) rfl, addN_yes (by simp [inB]; omega) (by simp [hasB]; omega)]; exact p1, Below.grown (Below.alloc (below_drewN BW.out _) (by simp; omega) _) p2 (by simp; omega) (fun k hk => by cases hk; exact (P.out.1.lt g rfl).1)⟩
    · have hd : decide (A < (n : Int)) = false := by simpa using hAn
      go_quiet (fail)
      go_wp2_with fail
      go_ret2
      exact ⟨_, rfl, ONE.out (by rw [← HY.out, nextOf_br rfl, fallL_yes (by omega) (by omega), addN_yes (n := n) (xs := []) (a := (p : Int) + 1) (by simp [inB]; omega) rfl, addN_out (by simp [inB]; omega)]; rfl) _, below_drewN BW.out _⟩
  · have n13 : (k == 13) = false := by simp [k13]
    go_quiet (fail)
    go_wp2_with fail
    go_ret2
    exact ⟨_, rfl, ONE.out (by rw [← HY.out, nextOf_no (by simp [isBr]; omega), fallL_yes (by omega) (by omega), addN_yes (n := n) (xs := []) (a := (p : Int) + 1) (by simp [inB]; omega) rfl]; rfl) _, below_drewN BW.out _⟩

end Go.Proofs.YtaimpljkbpnigaaGreatDoor

namespace Go.Proofs.YtaimpljkbpnigaaGreatDoor
open Go.RowKit
set_option linter.unusedVariables false

/-- A queue: numbers in block g from offset o on, with room for cap in all. -/
structure Queue (w : World) (base g o cap : Nat) (xs : List Int) : Prop where
  old : base ≤ g
  lt : g < w.heap.size
  len : xs.length ≤ cap
  cells : w.rangeAt g o (ints xs)
  room : w.there g o cap
theorem Queue.frm {S : Nat → Prop} {w w' : World} {base g o cap : Nat} {xs : List Int} (h : Queue w base g o cap xs) (hf : Frm S w w') (hg : ¬ S g) : Queue w' base g o cap xs := by
  have hc : ∀ o', w'.cell? ⟨g, o', none⟩ = w.cell? ⟨g, o', none⟩ := fun o' => World.cell?_of_block (w := w) (hf.block g h.lt hg)
  have hz : ∀ o', w'.frozen? ⟨g, o', none⟩ = w.frozen? ⟨g, o', none⟩ := fun o' => World.frozen?_of_block (w := w) (hf.block g h.lt hg)
  exact ⟨h.old, by have := hf.size; have := h.lt; omega, h.len, fun j v hv => by rw [hc]; exact h.cells j v hv, fun j hj => by rw [hc, hz]; exact h.room j hj⟩
theorem Queue.tail {w : World} {base g o cap : Nat} {x : Int} {xs : List Int} (h : Queue w base g o cap (x :: xs)) : Queue w base g (o + 1) (cap - 1) xs := by
  have hl := h.len
  simp at hl
  refine ⟨h.old, h.lt, by omega, fun j v hv => ?_, fun j hj => ?_⟩
  · rw [show o + 1 + j = o + (j + 1) by omega]; exact h.cells (j + 1) v (by simpa [ints] using hv)
  · rw [show o + 1 + j = o + (j + 1) by omega]; exact h.room (j + 1) (by omega)
theorem Queue.head {w : World} {base g o cap : Nat} {x : Int} {xs : List Int} (h : Queue w base g o cap (x :: xs)) : w.cell? ⟨g, o, none⟩ = some (.int .i64 x) := by
  have := h.cells 0 (.int .i64 x) (by simp [ints])
  simpa using this
theorem setCells_frm (b : Nat) : ∀ (vs : List Value) (o : Nat) (w : World), Frm (fun k => k = b) w (w.setCells b o vs)
  | [], _, w => Frm.refl _ w
  | v :: r, o, w => (Frm.set (S := fun k => k = b) (p := ⟨b, o, none⟩) v rfl).trans (setCells_frm b r (o + 1) (w.setCell ⟨b, o, none⟩ v)) (fun _ _ h => h)

theorem Queue.push {w : World} {base g o cap : Nat} {xs ys : List Int} (h : Queue w base g o cap xs) (hroom : xs.length + ys.length ≤ cap) : Queue (w.setCells g (o + xs.length * 1) (ints ys)) base g o cap (xs ++ ys) := by
  have hf := setCells_frm g (ints ys) (o + xs.length * 1) w
  refine ⟨h.old, by have := hf.size; have := h.lt; omega, by simpa using hroom, ?_, World.there_setCells h.room _ _ _⟩
  have h1 := World.rangeAt_setCells_apart h.cells g (o + xs.length * 1) (ints ys) (.inr (.inl (by rw [ints_len]; omega)))
  have h2 := World.rangeAt_setCells_same w g (o + xs.length * 1) (ints ys) (fun j hj => by
    rw [ints_len] at hj
    have := h.room (xs.length + j) (by omega)
    rw [show o + xs.length * 1 + j = o + (xs.length + j) by omega]; exact this)
  intro j v hv
  rw [ints_app] at hv
  rcases Nat.lt_or_ge j xs.length with hlt | hge
  · rw [List.getElem?_append_left (by rw [ints_len]; exact hlt)] at hv
    exact h1 j v hv
  · rw [List.getElem?_append_right (by rw [ints_len]; exact hge), ints_len] at hv
    have := h2 (j - xs.length) v hv
    rw [show o + xs.length * 1 + (j - xs.length) = o + j by omega] at this
    exact this
theorem Queue.of_owns {w : World} {base e g cap : Nat} {xs : List Int} (h : w.ownsRow base e 1 (.slice (some ⟨g, 0, none⟩) xs.length cap) xs.length (ints xs)) : Queue w base g 0 cap xs := by
  obtain ⟨h1, h2⟩ := h.lt g rfl
  rcases h.2 with ⟨e0, _⟩ | ⟨g', cap', cur, e0, hb, hg, hc, hcm, hcs, ht⟩
  · cases e0
  · cases e0
    refine ⟨h1, h2, hc, fun j v hv => ?_, fun j hj => ⟨?_, ?_⟩⟩
    · have hj : j < (ints xs).length := (List.getElem?_eq_some_iff.1 hv).1
      rw [Nat.zero_add, h.cellAt j (by rw [ints_len] at hj; omega)]; exact hv
    · rw [Nat.zero_add, cell_of_row w g j cur e (0, 0) hg]
      simp [show j < cur.size by omega]
    · rw [Nat.zero_add]; exact frozen_of_row w g j cur e hg

/-- What append does to a queue. -/
theorem run_append_queue {P : Program} (w : World) (t ty e : TypeId) (i : TypeInfo) (z : Value) (bytes : Nat) (ht : P.underlying t = some (.slice e)) (hi : P.info? e = some i) (hz : i.zero = some z) (hsize : i.size = 1) (hby : i.bytes = bytes) (hzs : z.cells.size = 1)
    (base g o cap : Nat) (xs ys : List Int) (hq : Queue w base g o cap xs) (v : Value) (base' : Nat) (hv : w.ownsRow base' e 1 v ys.length (ints ys)) (h63 : xs.length + ys.length ≤ maxLen) (hb : (xs.length + ys.length) * bytes ≤ 140737488355328) :
    ∃ g' o' cap' w', (Builtin.append_ #[t, t] ty #[.slice (some ⟨g, o, none⟩) xs.length cap, v]).run P w = .ok (.slice (some ⟨g', o', none⟩) (xs ++ ys).length cap') w' ∧ Queue w' base g' o' cap' (xs ++ ys) ∧ Frm (fun k => k = g) w w' ∧ (g' = g ∨ w.heap.size ≤ g') := by
  rw [List.length_append]
  rcases hv.2 with ⟨rfl, hn⟩ | ⟨gn, capn, cur, rfl, hbn, hgn, hcn, _, _, _⟩
  · have e0 : ys = [] := List.length_eq_zero_iff.1 hn
    subst e0
    have hr := run_append_room_src (P := P) w t t ty e i ht hi g o xs.length cap (.slice none 0 0) 0 [] (Src.ofNil w ht 0) (by have := hq.len; omega) (fun j hj => by simp at hj) (fun j hj => by simp at hj)
    refine ⟨g, o, cap, w, hr, by simpa using hq, Frm.refl _ _, .inl rfl⟩
  · have hnews : ∀ j u, (ints ys)[j]? = some u → w.cell? ((⟨gn, 0, none⟩ : Addr).add j) = some u := hv.cells (g := gn) rfl
    by_cases hroom : xs.length + ys.length ≤ cap
    · have hr := run_append_room_cells (P := P) w t ty e i ht hi g o xs.length cap ⟨gn, 0, none⟩ ys.length capn (ints ys) (by rw [ints_len, hsize]; omega) hnews (ints_one ys) hroom
        (fun j hj => by rw [hsize, show o + xs.length * 1 + j = o + (xs.length + j) by omega]; rw [ints_len] at hj; exact (hq.room _ (by omega)).1)
        (fun j hj => by rw [hsize, show o + xs.length * 1 + j = o + (xs.length + j) by omega]; rw [ints_len] at hj; exact (hq.room _ (by omega)).2)
      rw [hsize] at hr
      exact ⟨g, o, cap, _, hr, hq.push hroom, setCells_frm _ _ _ _, .inl rfl⟩
    · obtain ⟨v', w', hr, ho, hg⟩ := run_append_arg_grows (P := P) w t ty e i z 1 bytes ht hi hz hsize hby hzs (by decide) ⟨g, o, none⟩ xs.length cap (ints xs) (by rw [ints_len]; omega) (fun j u hu => by rw [Addr.add_mid]; exact hq.cells j u hu) ⟨gn, 0, none⟩ ys.length capn (ints ys) (by rw [ints_len]; omega) hnews (by omega) h63 hb
      have hpos : 0 < xs.length + ys.length := by have := hq.len; omega
      obtain ⟨g', cap', rfl, hg1, hg2⟩ := ho.form hpos
      have hq' : w'.ownsRow w.heap.size e 1 (.slice (some ⟨g', 0, none⟩) (xs ++ ys).length cap') (xs ++ ys).length (ints (xs ++ ys)) := by rw [List.length_append, ints_app]; exact ho
      have := Queue.of_owns hq'
      exact ⟨g', 0, cap', w', hr, ⟨by have := hq.old; have := hq.lt; omega, this.lt, this.len, this.cells, this.room⟩, Frm.of_grown hg (fun k hk => by cases hk), .inr hg1⟩
theorem wpList_append_queue {P : Program} (w : World) {ops : Array Oper} {rest : List Oper} {op : Oper} {a : Act} {Q : Exit → Act → World → Prop} (hgd : op.guard = none) (s x : Operand) (t : TypeId)
    (ho : op.op = .call { callee := .builtin .append, args := #[s, x], argTypes := #[t, t] })
    (e : TypeId) (i : TypeInfo) (z : Value) (bytes : Nat) (ht : P.underlying t = some (.slice e)) (hi : P.info? e = some i) (hz : i.zero = some z) (hsize : i.size = 1) (hby : i.bytes = bytes) (hzs : z.cells.size = 1)
    (base g o cap : Nat) (xs ys : List Int) (hs : a.eval s = .slice (some ⟨g, o, none⟩) xs.length cap) (hq : Queue w base g o cap xs) (v : Value) (base' : Nat) (hx : a.eval x = v) (hv : w.ownsRow base' e 1 v ys.length (ints ys)) (h63 : xs.length + ys.length ≤ maxLen) (hb : (xs.length + ys.length) * bytes ≤ 140737488355328)
    (h : ∀ g' o' cap' w', Queue w' base g' o' cap' (xs ++ ys) → Frm (fun k => k = g) w w' → (g' = g ∨ w.heap.size ≤ g') → wpList P ops Q rest (a.put op.dst (.slice (some ⟨g', o', none⟩) (xs ++ ys).length cap')) w') : wpList P ops Q (op :: rest) a w := by
  refine wpList_plain hgd fun K hK => ?_
  obtain ⟨g', o', cap', w', hr, h2, h3, h4⟩ := run_append_queue (P := P) w t op.type e i z bytes ht hi hz hsize hby hzs base g o cap xs ys hq v base' hv h63 hb
  unfold Oper.wp execOp
  simp only [ho, resolve, invoke, builtin, Sem.run_bind, Sem.run_pure, Result.andThen_ok, List.map_toArray, List.map_cons, List.map_nil, hs, hx, hr]
  exact hK _ _ (h g' o' cap' w' h2 h3 h4)

end Go.Proofs.YtaimpljkbpnigaaGreatDoor

namespace Go.Proofs.YtaimpljkbpnigaaGreatDoor
open Go.RowKit
set_option linter.unusedVariables false

set_option maxRecDepth 100000 in
set_option maxHeartbeats 4000000 in
theorem refReached_any (x y : Int) (a : Option Addr) (n c : Nat) (l : List (Int × Int)) (w : World) (h : Inss w a n c l) :
    Calls Tryz.prog 61 #[.agg #[.int .i64 x, .int .i64 y, .slice a n c]] w fun e w' => ∃ v bs, e = .returned (.tuple #[v, .int .i64 (cE l)]) ∧ Rd l bs ∧ w'.ownsRow w.heap.size 4 1 v bs.length (bools bs) ∧ Below w.heap.size w w' := by
  obtain ⟨i0, hi, hz0, hz1, hz2⟩ := info_parts Tryz.infoInt
  have L := hid h.len
  have hcp := h.cap
  cases hc : codeB l
  · rw [show cE l = 400 by simp [cE, hc]]
    go_enter Tryz.func61, Tryz.ntmps61
    go_wp2_with fail
    refine (refFuncMay_any _ _ _ _ _ l _ (h.kept (by go_grown))).mono ?_
    rintro e w1 ⟨rfl, hb⟩
    have B : Hid (Below w.heap.size w w1) := hid (kt (by go_grown) hb)
    clear hb
    go_wp2_with fail
    go_ret2
    exact ⟨_, [], rfl, .inr ⟨hc, rfl⟩, World.ownsRow_nil _ _ _ _, B.out⟩
  · have hlen : 1 ≤ n ∧ n ≤ 64 := by rw [L.out]; simp [codeB] at hc; exact hc.1
    rw [show cE l = 0 by simp [cE, hc]]
    have hmk := run_make_row' (P := Tryz.prog) 114 4 (.bool false) 1 Tryz.underlying114 Tryz.infoBool rfl .i64 .i64 n (by omega) (by omega)
    have HC := hid hc
    have HI0 := hid h
    have hr := h.room
    go_enter Tryz.func61, Tryz.ntmps61
    go_wp2_with fail
    refine (refFuncMay_any _ _ _ _ _ l _ (h.kept (by go_grown))).mono ?_
    rintro e w1 ⟨rfl, hb⟩
    have B : Hid (Below w.heap.size w w1) := hid (kt (by go_grown) hb)
    have hs : w.heap.size < w1.heap.size := by have := hb.size; simp at this; omega
    have d0 := kept_cell hb (b := w.heap.size) (o := 0) (v := .int .i64 x) (by simp [go_sem])
    have d1 := kept_cell hb (b := w.heap.size) (o := 1) (v := .int .i64 y) (by simp [go_sem])
    have d2 := kept_cell hb (b := w.heap.size) (o := 2) (v := .slice a n c) (by simp [go_sem])
    clear hb h
    have hB2 : Below w1.heap.size w1 ((w1.alloc (.cells (madeCells #[.bool false] n) 4)).alloc (.cells #[.int .i64 0] 3)) := Below.alloc (Below.alloc (Below.refl _ _) (Nat.le_refl _) _) (by simp) _
    have D := hid (And.intro (kept_cell hB2 d0) (And.intro (kept_cell hB2 d1) (kept_cell hB2 d2)))
    have B2 : Hid (Below w.heap.size w ((w1.alloc (.cells (madeCells #[.bool false] n) 4)).alloc (.cells #[.int .i64 0] 3))) := hid (kt B.out hB2)
    have M0 : Hid (MarkSt ((w1.alloc (.cells (madeCells #[.bool false] n) 4)).alloc (.cells #[.int .i64 0] 3)) w1.heap.size n w.heap.size (List.replicate l.length false)) := hid (by
      rw [← L.out]; exact (MarkSt.make w1 n w.heap.size (by omega) (by unfold maxLen; omega)).kept (Below.alloc (Below.refl _ _) (Nat.le_refl _) _))
    have Q0 : Hid (Queue ((w1.alloc (.cells (madeCells #[.bool false] n) 4)).alloc (.cells #[.int .i64 0] 3)) (w1.heap.size + 1) (w1.heap.size + 1) 0 1 [0]) := hid (by
      have := World.ownsRow_lit (e := 3) (size := 1) (base := w1.heap.size + 1) (w1.alloc (.cells (madeCells #[.bool false] n) 4)) #[.int .i64 0] 1 (by simp) (by decide) rfl
      have := Queue.of_owns (xs := [0]) this
      simpa using this)
    clear hB2
    go_wp2_with fail
    go_loopg [5] (3 * n + 1) (fun k wv wr => ∃ bs ws g o cap, k = 3 * unm bs + ws.length ∧ k ≤ 3 * n + 1 ∧ QInv l bs ws ∧ wv = .slice (some ⟨g, o, none⟩) ws.length cap ∧ Queue wr (w1.heap.size + 1) g o cap ws ∧ wr.cell? ⟨w.heap.size, 0, none⟩ = some (.int .i64 x) ∧ wr.cell? ⟨w.heap.size, 1, none⟩ = some (.int .i64 y) ∧ wr.cell? ⟨w.heap.size, 2, none⟩ = some (.slice a n c) ∧ MarkSt wr w1.heap.size n w.heap.size bs ∧ Below w.heap.size w wr)
    case atStart => exact ⟨_, _, _, _, _, by rw [unm_rep, ← L.out]; rfl, Nat.le_refl _, QInv.start (by have := L.out; omega), rfl, Q0.out, D.out.1, D.out.2.1, D.out.2.2, M0.out, B2.out⟩
    case round =>
      clear D M0 Q0 B2 d0 d1 d2 hmk hc
      obtain ⟨bs, ws, g, o, cap, hk, hkn, inv, rfl, q, d0, d1, d2, ms, hb⟩ := hrel
      have hlw : ws.length ≤ 200 := by omega
      have HK := hid (And.intro hk hkn)
      have hcq := q.len
      clear hk hkn
      cases ws with
      | nil =>
        have MS := hid ms
        have IV := hid inv
        clear ms q inv
        go_wp2_with fail
        go_ret2
        refine ⟨_, bs, rfl, .inl ⟨HC.out, IV.out.done⟩, ?_, hb⟩
        rw [MS.out.len]
        exact MS.out.row
      | cons xx ws0 =>
        obtain ⟨p, rfl, hpl, -⟩ := inv.work xx (by simp)
        have hpn : p < n := by have := L.out; omega
        have cX := q.head
        have cM := ms.at p hpn
        have fM := ms.free p
        have hgl := q.lt
        have hgo := q.old
        have hl1 : ((p : Int) :: ws0).length = ws0.length + 1 := by simp
        rw [hl1] at hcq hlw ⊢
        have IV := hid inv
        have MS := hid ms
        have B1 : Hid (Below w.heap.size w (wr.setCell ⟨w1.heap.size, p, none⟩ (.bool true))) := hid (Below.setCell hb (by simp; omega) _)
        have F1 : Hid (Frm (fun k => k = w1.heap.size) wr (wr.setCell ⟨w1.heap.size, p, none⟩ (.bool true))) := hid (Frm.set _ rfl)
        have M1 := hid (ms.put p)
        have HM : Hid (bs.getD p false = false → unm (bs.set p true) + 1 = unm bs) := hid (fun h => unm_set (by rw [ms.len]; exact hpn) h)
        have NL := hid (nextL_len l p)
        have NE : Hid (nxL l p = nextL l p) := hid (by unfold nxL; rw [if_pos (by rw [nxOk, HC.out, show inB l.length p = true by simp [inB]; omega]; rfl), Int.toNat_natCast])
        have QT : Hid (∃ o', (cap = 1 → o' = o) ∧ (¬ cap = 1 → o' = o + 1) ∧ Queue wr (w1.heap.size + 1) g o' (cap - 1) ws0) := hid (by
          have qt := q.tail
          by_cases h1 : cap = 1
          · have e0 : ws0 = [] := List.length_eq_zero_iff.1 (by omega)
            refine ⟨o, fun _ => rfl, fun h => absurd h1 h, ⟨qt.old, qt.lt, qt.len, ?_, ?_⟩⟩
            · rw [e0]; intro j v hv; simp [ints] at hv
            · intro j hj; omega
          · exact ⟨o + 1, fun h => absurd h h1, fun _ => rfl, qt⟩)
        clear q inv ms hl1
        cases hm : bs.getD p false
        rotate_left
        · rw [hm] at cM
          by_cases h1 : cap = 1
          · obtain ⟨o', e1, -, QT0⟩ := QT.out
            have e1 := e1 h1
            subst e1
            subst h1
            obtain rfl : ws0 = [] := List.length_eq_zero_iff.1 (by omega)
            have Q := hid QT0
            clear QT0 QT
            go_wp2_with fail
            go_roundg (3 * unm bs + 0)
            case measure => have := HK.out.1; simp at this; omega
            case rel => exact ⟨bs, [], g, _, _, rfl, by have := HK.out; simp at this; omega, IV.out.skip hm, rfl, Q.out, d0, d1, d2, MS.out, hb⟩
          · obtain ⟨o', -, e1, QT0⟩ := QT.out
            have e1 := e1 h1
            subst e1
            have Q := hid QT0
            clear QT0 QT
            go_wp2_with fail
            go_roundg (3 * unm bs + ws0.length)
            case measure => have := HK.out.1; simp at this; omega
            case rel => exact ⟨bs, ws0, g, _, _, rfl, by have := HK.out; simp at this; omega, IV.out.skip hm, rfl, Q.out, d0, d1, d2, MS.out, hb⟩
        · rw [hm] at cM
          obtain ⟨o', e1, e2, QT0⟩ := QT.out
          have q1 := F1.out
          have c0 := q1.cell d0 (by omega)
          have c1 := q1.cell d1 (by omega)
          have c2 := q1.cell d2 (by omega)
          have Q1 := hid (QT0.frm q1 (by omega))
          clear q1 QT QT0
          have CC := hid (And.intro c0 (And.intro c1 c2))
          clear c0 c1 c2
          by_cases h1 : cap = 1
          · have e1 := e1 h1
            subst e1
            subst h1
            obtain rfl : ws0 = [] := List.length_eq_zero_iff.1 (by omega)
            clear e2
            go_wp2_with fail
            refine (refNext_any x y p a n c l _ (HI0.out.kept B1.out)).mono ?_
            rintro e w2 ⟨v2, rfl, ho2, hb2⟩
            rw [NE.out] at ho2
            have hsz := hb2.size
            simp at hsz
            have Q2 := hid (Q1.out.frm (Frm.of_below (S := fun _ => False) hb2) (fun h => h))
            have M2 := hid (M1.out.kept hb2)
            have C2 := hid (And.intro (kept_cell hb2 CC.out.1) (And.intro (kept_cell hb2 CC.out.2.1) (kept_cell hb2 CC.out.2.2)))
            have B2 : Hid (Below w.heap.size w w2) := hid (kt B1.out hb2)
            have O2 := hid ho2
            clear ho2 hb2
            obtain ⟨va, vn, vc, rfl, hvI⟩ := ints_of_owns O2.out (by have := NL.out; omega)
            clear hvI
            go_wp2_with (first | (at_builtin; go_must ((refine wpList_append_queue _ rfl _ _ 42 rfl 3 i0 (.int .i64 0) 8 Tryz.underlying42 hi hz0 hz1 hz2 rfl _ _ _ _ [] (nextL l p) rfl Q2.out _ _ rfl O2.out (by unfold maxLen; have := NL.out; omega) (by have := NL.out; omega) ?_; intro g3 o3 cap3 w3 q3 f3 at3; have P3 := hid (And.intro q3 (And.intro f3 at3)); clear q3 f3 at3))))
            obtain ⟨q3, f3, at3⟩ := P3.out
            go_roundg (3 * unm (bs.set p true) + ([] ++ nextL l p).length)
            case measure => have := HK.out.1; have := HM.out hm; have := NL.out; simp at *; omega
            case rel => exact ⟨bs.set p true, [] ++ nextL l p, g3, o3, cap3, rfl, by have := HK.out; have := HM.out hm; have := NL.out; simp at *; omega, IV.out.take, rfl, q3, f3.cell C2.out.1 (by omega), f3.cell C2.out.2.1 (by omega), f3.cell C2.out.2.2 (by omega), M2.out.frm f3 (by omega), B2.out.trans (f3.below (by have := B2.out.size; omega) (fun k hk => by omega))⟩
          · have e2 := e2 h1
            subst e2
            clear e1
            go_wp2_with fail
            refine (refNext_any x y p a n c l _ (HI0.out.kept B1.out)).mono ?_
            rintro e w2 ⟨v2, rfl, ho2, hb2⟩
            rw [NE.out] at ho2
            have hsz := hb2.size
            simp at hsz
            have Q2 := hid (Q1.out.frm (Frm.of_below (S := fun _ => False) hb2) (fun h => h))
            have M2 := hid (M1.out.kept hb2)
            have C2 := hid (And.intro (kept_cell hb2 CC.out.1) (And.intro (kept_cell hb2 CC.out.2.1) (kept_cell hb2 CC.out.2.2)))
            have B2 : Hid (Below w.heap.size w w2) := hid (kt B1.out hb2)
            have O2 := hid ho2
            clear ho2 hb2
            obtain ⟨va, vn, vc, rfl, hvI⟩ := ints_of_owns O2.out (by have := NL.out; omega)
            clear hvI
            go_wp2_with (first | (at_builtin; go_must ((refine wpList_append_queue _ rfl _ _ 42 rfl 3 i0 (.int .i64 0) 8 Tryz.underlying42 hi hz0 hz1 hz2 rfl _ _ _ _ ws0 (nextL l p) rfl Q2.out _ _ rfl O2.out (by unfold maxLen; have := NL.out; omega) (by have := NL.out; omega) ?_; intro g3 o3 cap3 w3 q3 f3 at3; have P3 := hid (And.intro q3 (And.intro f3 at3)); clear q3 f3 at3))))
            obtain ⟨q3, f3, at3⟩ := P3.out
            go_roundg (3 * unm (bs.set p true) + (ws0 ++ nextL l p).length)
            case measure => have := HK.out.1; have := HM.out hm; have := NL.out; simp at *; omega
            case rel => exact ⟨bs.set p true, ws0 ++ nextL l p, g3, o3, cap3, rfl, by have := HK.out; have := HM.out hm; have := NL.out; simp at *; omega, IV.out.take, by rw [List.length_append], q3, f3.cell C2.out.1 (by omega), f3.cell C2.out.2.1 (by omega), f3.cell C2.out.2.2 (by omega), M2.out.frm f3 (by omega), B2.out.trans (f3.below (by have := B2.out.size; omega) (fun k hk => by omega))⟩

end Go.Proofs.YtaimpljkbpnigaaGreatDoor
