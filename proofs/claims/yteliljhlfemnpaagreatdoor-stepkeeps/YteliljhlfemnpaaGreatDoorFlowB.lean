/- What next and Next of package flow return. -/
import Derived.Test.YteliljhlfemnpaaGreatDoorFlowA
import Derived.Test.YteliljhlfemnpaaGreatDoorCopy
namespace Go.Proofs.YteliljhlfemnpaaGreatDoor
open Go.RowKit
set_option linter.unusedVariables false

theorem Tryz.infoInt : (Tryz.prog.info? 3).map (fun i => (i.zero, i.size, i.bytes)) = some (some (.int .i64 0), 1, 8) := by kernel_rfl

/-- The list that add grows: in the cell at block T, its row among the blocks from H on. -/
structure AddSt (w : World) (T H : Nat) (xs : List Int) : Prop where
  ex : ∃ va vn vc, w.cell? ⟨T, 0, none⟩ = some (.slice va vn vc) ∧ w.frozen? ⟨T, 0, none⟩ = false ∧ w.ownsRow H 3 1 (.slice va vn vc) xs.length (ints xs)

theorem ints_snoc {w : World} {base e : Nat} {v : Value} {xs : List Int} {x : Int} (h : w.ownsRow base e 1 v (xs.length + 1) (ints xs ++ [.int .i64 x])) : w.ownsRow base e 1 v (xs ++ [x]).length (ints (xs ++ [x])) := by
  rw [ints_app, List.length_append]; exact h

set_option maxHeartbeats 1000000 in
theorem add_any (x : Int) (C T H : Nat) (sa : Option Addr) (n c : Nat) (xs : List Int) (w : World) (hl : xs.length ≤ 100) (hC : w.cell? ⟨C, 0, none⟩ = some (.slice sa n c)) (st : AddSt w T H xs) (hCT : C ≠ T) (hTH : T < H) (hH : H ≤ w.heap.size) :
    Calls Tryz.prog 133 #[.int .i64 x, .pointer (some ⟨C, 0, none⟩), .pointer (some ⟨T, 0, none⟩)] w fun e w' => e = .returned (.tuple #[]) ∧ AddSt w' T H (addN n xs x) ∧ Frm (fun k => k = T ∨ H ≤ k) w w' := by
  obtain ⟨i0, hi, hz0, hz1, hz2⟩ := info_parts Tryz.infoInt
  obtain ⟨va, vn, vc, hT, hf, ho⟩ := st.ex
  obtain ⟨_, _, _, e0, HI⟩ := ints_of_owns ho (by omega)
  cases e0
  cases hin : inB n x
  · go_enter Tryz.func133, Tryz.ntmps133
    go_wp2_with (first | (go_at_call 134; refine (isIn_any _ _ _ _ _).mono ?_; rintro e w' ⟨rfl, hw⟩; rw [hw]; clear hw))
    go_end0
    exact ⟨rfl, by rw [addN_out hin]; exact st, Frm.refl _ _⟩
  cases hhas : hasB xs x
  rotate_left
  · go_enter Tryz.func133, Tryz.ntmps133
    go_wp2_with (first | (go_at_call 134; refine (isIn_any _ _ _ _ _).mono ?_; rintro e w' ⟨rfl, hw⟩; rw [hw]; clear hw) | (go_at_call 135; refine (containsInt_any _ _ _ xs _ _ HI).mono ?_; rintro e w' ⟨rfl, hw⟩; rw [hw]; clear hw))
    go_end0
    exact ⟨rfl, by rw [addN_has hhas]; exact st, Frm.refl _ _⟩
  have hTl := lt_of_cell hT
  have hB : Below w.heap.size w (w.alloc (.cells #[.int .i64 x] 3)) := Below.alloc (Below.refl _ _) (Nat.le_refl _) _
  have HO : Hid ((w.alloc (.cells #[.int .i64 x] 3)).ownsRow H 3 1 (.slice va vn vc) xs.length (ints xs)) := hid (owns_kept ho hB)
  have hnews := World.news_of_block (heap_alloc_new w (.cells #[.int .i64 x] 3))
  have hne : some T ≠ (Value.slice va vn vc).ownBlock := fun h => by have := (ho.lt _ h.symm).1; omega
  have HN := hid hne
  have J := hid (And.intro (kept_cell hB hT) ((hB.frozen (p := ⟨T, 0, none⟩) hTl).trans hf))
  have G0 := hid (And.intro hl hH)
  clear hne ho
  go_enter Tryz.func133, Tryz.ntmps133
  go_wp2_with (first | (go_at_call 134; refine (isIn_any _ _ _ _ _).mono ?_; rintro e w' ⟨rfl, hw⟩; rw [hw]; clear hw) | (go_at_call 135; refine (containsInt_any _ _ _ xs _ _ HI).mono ?_; rintro e w' ⟨rfl, hw⟩; rw [hw]; clear hw) | (at_builtin; go_must ((refine wpList_append_lies _ rfl _ _ 26 rfl H 3 i0 (.int .i64 0) 1 8 Tryz.underlying26 hi hz0 hz1 hz2 rfl (by decide) (.slice va vn vc) xs.length (ints xs) rfl HO.out ⟨w.heap.size, 0, none⟩ 1 1 [.int .i64 x] rfl rfl hnews (by intro u hu; simp at hu; subst hu; rfl) (by decide) (by unfold maxLen; have := G0.out.1; omega) (by have := G0.out.1; omega) (by simp; have := G0.out.2; omega) (w.heap.size + 1) (by simp) ?_; intro g cap w6 ho6 hg6 hat hlt6; have q2 := hg6.cell J.out.1 HN.out; have qf2 := (hg6.frozen_far ⟨T, 0, none⟩ (lt_of_cell J.out.1) HN.out).trans J.out.2; have P := hid (And.intro ho6 (And.intro hg6 hlt6)); clear ho6 hg6 hat hlt6))))
  go_end0
  obtain ⟨p1, p2, p3⟩ := P.out
  refine ⟨rfl, ⟨_, _, _, World.cell?_setCell_same _ _ _ q2, by simp [qf2], ?_⟩, ?_⟩
  · rw [addN_yes hin hhas]
    exact ints_snoc (owns_set p1 _ _ (by simpa using hTH))
  · refine ((Frm.of_below hB).trans (Frm.of_grown (S := fun k => k = T ∨ H ≤ k) p2 (fun k hk => .inr (HO.out.lt k hk).1)) (fun _ _ h => h)).trans (Frm.set (S := fun k => k = T ∨ H ≤ k) _ (.inl rfl)) (fun _ _ h => h)

/-- Behind the calls of add: what next returns. -/
theorem AddSt.out {w w' : World} {T H : Nat} {xs : List Int} (h : AddSt w' T H xs) (hb : w.heap.size ≤ H) : ∃ va vn vc, w'.cell? ⟨T, 0, none⟩ = some (.slice va vn vc) ∧ w'.ownsRow w.heap.size 3 1 (.slice va vn vc) xs.length (ints xs) := by
  obtain ⟨va, vn, vc, h1, _, h2⟩ := h.ex
  exact ⟨va, vn, vc, h1, owns_base h2 hb⟩

/-- The world as next has it ahead of its tests. -/
def nextW (w : World) (a : Option Addr) (n c : Nat) (x y : Int) : World := ((w.alloc (.cells #[.slice a n c] 47)).alloc (.cells #[.slice none 0 0] 26)).alloc (.cells #[.int .i64 x, .int .i64 y] 46)
theorem nextW_add (w : World) (a : Option Addr) (n c : Nat) (x y : Int) : AddSt (nextW w a n c x y) (w.heap.size + 1) (w.heap.size + 3) [] :=
  ⟨none, 0, 0, by simp [nextW, go_sem], by simp [nextW, go_sem], World.ownsRow_nil _ _ _ _⟩
theorem nextW_size (w : World) (a : Option Addr) (n c : Nat) (x y : Int) : (nextW w a n c x y).heap.size = w.heap.size + 3 := by simp [nextW]
theorem nextW_code (w : World) (a : Option Addr) (n c : Nat) (x y : Int) : (nextW w a n c x y).cell? ⟨w.heap.size, 0, none⟩ = some (.slice a n c) := by simp [nextW, go_sem]
theorem nextW_x (w : World) (a : Option Addr) (n c : Nat) (x y : Int) : (nextW w a n c x y).cell? ⟨w.heap.size + 1 + 1, 0, none⟩ = some (.int .i64 x) := by simp [nextW, go_sem]
theorem nextW_y (w : World) (a : Option Addr) (n c : Nat) (x y : Int) : (nextW w a n c x y).cell? ⟨w.heap.size + 1 + 1, 1, none⟩ = some (.int .i64 y) := by simp [nextW, go_sem]
theorem nextW_below (w : World) (a : Option Addr) (n c : Nat) (x y : Int) : Below w.heap.size w (nextW w a n c x y) :=
  Below.alloc (Below.alloc (Below.alloc (Below.refl _ _) (Nat.le_refl _) _) (by simp) _) (by simp; omega) _
theorem nextW_done {w w' : World} {a : Option Addr} {n c : Nat} {x y : Int} (h : Frm (fun k => k = w.heap.size + 1 ∨ w.heap.size + 3 ≤ k) (nextW w a n c x y) w') : Below w.heap.size w w' :=
  (nextW_below w a n c x y).trans (h.below (by rw [nextW_size]; omega) (fun k hk => by omega))

set_option maxHeartbeats 2000000 in
theorem next_any (p : Nat) (a : Option Addr) (n c : Nat) (l : List (Int × Int)) (w : World) (h : Inss w a n c l) (hp : p < n) :
    Calls Tryz.prog 115 #[.slice a n c, .int .i64 p] w fun e w' => ∃ v, e = .returned v ∧ w'.ownsRow w.heap.size 3 1 v (nextL l p).length (ints (nextL l p)) ∧ Below w.heap.size w w' := by
  have hr := h.room
  have hcp := h.cap
  have L := hid h.len
  obtain ⟨b1, o1, x, y, rfl, e1, c1, c2⟩ := h.at p hp
  rw [nextL_at L.out e1]
  clear e1 h
  have z1 := World.new_ne _ _ c1
  have hlt1 := lt_of_cell c1
  by_cases k12 : x = 12
  · subst k12
    rw [nextOf_br rfl, fallL_no (.inl rfl)]
    have hb12 : isBr 12 = true := rfl
    go_enter Tryz.func115, Tryz.ntmps115
    go_wp2_with (first | (go_at_call 136; refine (isBranch_any _ _).mono ?_; rintro e w' ⟨rfl, hw⟩; rw [hw]; clear hw))
    refine (add_any y _ (w.heap.size + 1) (w.heap.size + 3) _ n c [] (nextW w (some ⟨b1, o1, none⟩) n c 12 y) (by simp) (nextW_code _ _ _ _ _ _) (nextW_add _ _ _ _ _ _) (by omega) (by omega) (by rw [nextW_size]; omega)).mono ?_
    rintro e w1 ⟨rfl, st, fr⟩
    obtain ⟨va, vn, vc, d1, d2⟩ := st.out (w := w) (by omega)
    go_wp2_with fail
    go_ret
    exact ⟨_, rfl, d2, nextW_done fr⟩
  by_cases k16 : x = 16
  · subst k16
    rw [nextOf_no rfl, fallL_no (.inr rfl)]
    have hb16 : isBr 16 = false := rfl
    go_enter Tryz.func115, Tryz.ntmps115
    go_wp2_with (first | (go_at_call 136; refine (isBranch_any _ _).mono ?_; rintro e w' ⟨rfl, hw⟩; rw [hw]; clear hw))
    go_ret
    exact ⟨_, rfl, World.ownsRow_nil _ _ _ _, nextW_below w (some ⟨b1, o1, none⟩) n c 16 y⟩
  have m12 : (x != 12) = true := by simp [k12]
  have m16 : (x != 16) = true := by simp [k16]
  cases hbr : isBr x
  · rw [nextOf_no hbr, fallL_yes k12 k16]
    go_enter Tryz.func115, Tryz.ntmps115
    go_wp2_with fail
    refine (add_any (p + 1) _ (w.heap.size + 1) (w.heap.size + 3) _ n c [] (nextW w (some ⟨b1, o1, none⟩) n c x y) (by simp) (nextW_code _ _ _ _ _ _) (nextW_add _ _ _ _ _ _) (by omega) (by omega) (by rw [nextW_size]; omega)).mono ?_
    rintro e w1 ⟨rfl, st, fr⟩
    have d0 := fr.cell (nextW_x w (some ⟨b1, o1, none⟩) n c x y) (by omega)
    obtain ⟨va, vn, vc, d1, d2⟩ := st.out (w := w) (by omega)
    go_wp2_with (first | (go_at_call 136; refine (isBranch_any _ _).mono ?_; rintro e w' ⟨rfl, hw⟩; rw [hw]; clear hw))
    go_ret
    exact ⟨_, rfl, d2, nextW_done fr⟩
  · rw [nextOf_br hbr, fallL_yes k12 k16]
    go_enter Tryz.func115, Tryz.ntmps115
    go_wp2_with fail
    refine (add_any (p + 1) _ (w.heap.size + 1) (w.heap.size + 3) _ n c [] (nextW w (some ⟨b1, o1, none⟩) n c x y) (by simp) (nextW_code _ _ _ _ _ _) (nextW_add _ _ _ _ _ _) (by omega) (by omega) (by rw [nextW_size]; omega)).mono ?_
    rintro e w1 ⟨rfl, st, fr⟩
    have d0 := fr.cell (nextW_x w (some ⟨b1, o1, none⟩) n c x y) (by omega)
    have d0' := fr.cell (nextW_y w (some ⟨b1, o1, none⟩) n c x y) (by omega)
    have d1 := fr.cell (nextW_code w (some ⟨b1, o1, none⟩) n c x y) (by omega)
    have hs := fr.size
    rw [nextW_size] at hs
    go_wp2_with (first | (go_at_call 136; refine (isBranch_any _ _).mono ?_; rintro e w' ⟨rfl, hw⟩; rw [hw]; clear hw))
    refine (add_any y _ (w.heap.size + 1) (w.heap.size + 3) _ n c _ w1 (by have := addN_len n [] (p + 1); simp at this; omega) d1 st (by omega) (by omega) hs).mono ?_
    rintro e w2 ⟨rfl, st2, fr2⟩
    obtain ⟨va, vn, vc, d1', d2'⟩ := st2.out (w := w) (by omega)
    go_wp2_with fail
    go_ret
    exact ⟨_, rfl, d2', nextW_done (fr.trans fr2 (fun _ _ h => h))⟩

set_option maxHeartbeats 1000000 in
theorem flowNext_any (x y pc : Int) (a : Option Addr) (n c : Nat) (l : List (Int × Int)) (w : World) (h : Inss w a n c l) :
    Calls Tryz.prog 138 #[.agg #[.int .i64 x, .int .i64 y, .slice a n c], .int .i64 pc] w fun e w' => ∃ v, e = .returned (.tuple #[v, .int .i64 (nxE l pc)]) ∧ w'.ownsRow w.heap.size 3 1 v (nxL l pc).length (ints (nxL l pc)) ∧ Below w.heap.size w w' := by
  have L := hid h.len
  cases hc : codeB l
  · have E : nxOk l pc = false := by simp [nxOk, hc]
    rw [show nxE l pc = 400 by simp [nxE, E], show nxL l pc = [] by simp [nxL, E]]
    go_enter Tryz.func138, Tryz.ntmps138
    go_wp2_with fail
    refine (isFlow_any _ _ _ _ _ l _ (h.kept (by go_grown))).mono ?_
    rintro e w1 ⟨rfl, hb⟩
    have B : Hid (Below w.heap.size w w1) := hid (kt (by go_grown) hb)
    clear hb
    go_wp2_with fail
    go_ret2
    exact ⟨_, rfl, World.ownsRow_nil _ _ _ _, B.out⟩
  cases hin : inB n pc
  · have E : nxOk l pc = false := by rw [nxOk, ← L.out, hin]; simp
    rw [show nxE l pc = 400 by simp [nxE, E], show nxL l pc = [] by simp [nxL, E]]
    go_enter Tryz.func138, Tryz.ntmps138
    go_wp2_with fail
    refine (isFlow_any _ _ _ _ _ l _ (h.kept (by go_grown))).mono ?_
    rintro e w1 ⟨rfl, hb⟩
    have B : Hid (Below w.heap.size w w1) := hid (kt (by go_grown) hb)
    have d := kept_cell hb (b := w.heap.size) (o := 2) (v := .slice a n c) (by simp [go_sem])
    clear hb
    go_wp2_with (first | (go_at_call 134; refine (isIn_any _ _ _ _ _).mono ?_; rintro e w' ⟨rfl, hw⟩; rw [hw]; clear hw))
    go_ret2
    exact ⟨_, rfl, World.ownsRow_nil _ _ _ _, B.out⟩
  · have E : nxOk l pc = true := by rw [nxOk, ← L.out, hin, hc]; rfl
    rw [show nxE l pc = 0 by simp [nxE, E], show nxL l pc = nextL l pc.toNat by simp [nxL, E]]
    have hpc : 0 ≤ pc ∧ pc < n := by simpa [inB] using hin
    obtain ⟨p, rfl⟩ : ∃ p : Nat, pc = p := ⟨pc.toNat, by omega⟩
    go_enter Tryz.func138, Tryz.ntmps138
    go_wp2_with fail
    refine (isFlow_any _ _ _ _ _ l _ (h.kept (by go_grown))).mono ?_
    rintro e w1 ⟨rfl, hb⟩
    have B : Hid (Below w.heap.size w w1) := hid (kt (by go_grown) hb)
    have d := kept_cell hb (b := w.heap.size) (o := 2) (v := .slice a n c) (by simp [go_sem])
    have HI := hid ((h.kept (by go_grown)).kept hb)
    clear hb h
    go_wp2_with (first | (go_at_call 134; refine (isIn_any _ _ _ _ _).mono ?_; rintro e w' ⟨rfl, hw⟩; rw [hw]; clear hw))
    refine (next_any p _ _ _ l _ HI.out (by omega)).mono ?_
    rintro e w2 ⟨v, rfl, ho, hb⟩
    go_wp2_with fail
    go_ret2
    exact ⟨_, rfl, owns_base ho B.out.size, kt B.out hb⟩

end Go.Proofs.YteliljhlfemnpaaGreatDoor
