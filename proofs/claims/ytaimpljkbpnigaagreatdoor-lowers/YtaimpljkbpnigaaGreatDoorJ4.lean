/- What the small functions of package flow return: isIn, isBranch, isFlow; and the slices' functions that they call. What next and Next of package flow return. What Leaders of package flow returns. What Reached of package flow returns. What Reached of package flow returns: the whole. -/
import Derived.Test.YtaimpljkbpnigaaGreatDoorPlainFlow
import Derived.Test.YtaimpljkbpnigaaGreatDoorMemInts
import Derived.Test.YtaimpljkbpnigaaGreatDoorIns
import Derived.Test.YtaimpljkbpnigaaGreatDoorJ2s
import Derived.Test.YtaimpljkbpnigaaGreatDoorRefPacks
import Derived.RegionTactic
import Derived.BigRegion
import Derived.Deep.OwnRows
import Derived.Deep.LoopGhost
namespace Go.Proofs.YtaimpljkbpnigaaGreatDoor
open Go.RowKit
set_option linter.unusedVariables false

set_option maxHeartbeats 400000 in
theorem isIn_any (a : Option Addr) (n c : Nat) (pc : Int) (w : World) :
    Calls Tryz.prog 126 #[.slice a n c, .int .i64 pc] w fun e w' => e = .returned (.bool (inB n pc)) ∧ w' = w := by
  by_cases h : 0 ≤ pc
  · go_enter Tryz.func126, Tryz.ntmps126
    go_wp2
    go_ret
    exact ⟨ret_bool (by simp [inB, h]), rfl⟩
  · have h' : pc < 0 := by omega
    go_enter Tryz.func126, Tryz.ntmps126
    go_wp2
    go_ret
    exact ⟨ret_bool (by simp [inB]; omega), rfl⟩

set_option maxHeartbeats 400000 in
theorem isBranch_any (k : Int) (w : World) :
    Calls Tryz.prog 128 #[.int .i64 k] w fun e w' => e = .returned (.bool (isBr k)) ∧ w' = w := by
  by_cases h : k = 12
  · subst h
    go_enter Tryz.func128, Tryz.ntmps128
    go_wp2
    go_ret
    exact ⟨rfl, rfl⟩
  · have h' : (k == 12) = false := by simp [h]
    go_enter Tryz.func128, Tryz.ntmps128
    go_wp2
    go_ret
    exact ⟨ret_bool (by rw [Bool.eq_iff_iff]; simp [isBr, h]), rfl⟩

set_option maxHeartbeats 400000 in
theorem flowNot_any (k a : Int) (w : World) :
    Calls Tryz.prog 123 #[.agg #[.int .i64 k, .int .i64 a]] w fun e w' => e = .returned (.bool (!mayB k a)) ∧ Below w.heap.size w w' := by
  go_enter Tryz.func123, Tryz.ntmps123
  go_wp2_with fail
  refine (insMay_any _ _ _).mono ?_
  rintro e w1 ⟨rfl, hb⟩
  have B : Hid (Below w.heap.size w w1) := hid (kt (by go_grown) hb)
  clear hb
  go_wp2_with fail
  go_ret
  exact ⟨rfl, B.out⟩

set_option maxHeartbeats 1000000 in
theorem indexFlow_any (a : Option Addr) (n c : Nat) (l : List (Int × Int)) (w : World) (h : Inss w a n c l) :
    Calls Tryz.prog 135 #[.slice a n c, .func (.func 123) #[] #[]] w fun e w' => ∃ r : Int, e = .returned (.int .i64 r) ∧ decide (0 ≤ r) = (!l.all fun p => mayB p.1 p.2) ∧ Below w.heap.size w w' := by
  have L := hid h.len
  have hr := h.room
  have hcp := h.cap
  go_enter Tryz.func135, Tryz.ntmps135
  go_wp2
  go_loopw [8] (fun i wr => ∃ q : Nat, q ≤ n ∧ i = .int .i64 q ∧ ((l.take q).all fun p => mayB p.1 p.2) = true ∧ Below w.heap.size w wr) (fun i _ => n - (intOf i).toNat)
  case atStart => exact ⟨0, Nat.zero_le _, rfl, by simp, by go_grown⟩
  case round =>
    obtain ⟨q, hq, rfl, ht, hb⟩ := hrel
    have HT := hid ht
    clear ht
    by_cases hlt : q < n
    · obtain ⟨b1, o1, x1, y1, rfl, e1, c1, c2⟩ := (h.kept hb).at q hlt
      have E1 := hid e1
      clear e1
      go_wp2_with fail
      refine (flowNot_any _ _ _).mono ?_
      rintro e w1 ⟨rfl, b1'⟩
      have B := hid b1'
      clear b1'
      cases hm : mayB x1 y1
      · have F := hid (all_not_at (l := l) (p := fun p => mayB p.1 p.2) (q := q) (d := (0, 0)) (by have := L.out; omega) (by rw [E1.out]; exact hm))
        go_wp2_with fail
        go_ret
        exact ⟨_, rfl, by rw [F.out]; simp, kt hb B.out⟩
      · go_wp2_with fail
        go_roundw
        case rel => exact ⟨q + 1, by omega, by go_num, all_take_step (d := (0, 0)) (by have := L.out; omega) HT.out (by rw [E1.out]; exact hm), kt hb B.out⟩
        case measure => simp [intOf]; omega
    · have F := hid (all_take_all (l := l) (p := fun p => mayB p.1 p.2) (by have := L.out; omega) HT.out)
      go_wp2
      go_ret
      exact ⟨_, rfl, by rw [F.out]; simp, hb⟩

set_option maxHeartbeats 400000 in
theorem containsFlow_any (a : Option Addr) (n c : Nat) (l : List (Int × Int)) (w : World) (h : Inss w a n c l) :
    Calls Tryz.prog 122 #[.slice a n c, .func (.func 123) #[] #[]] w fun e w' => e = .returned (.bool (!l.all fun p => mayB p.1 p.2)) ∧ Below w.heap.size w w' := by
  go_enter Tryz.func122, Tryz.ntmps122
  go_wp2_with fail
  refine (indexFlow_any _ _ _ l _ h).mono ?_
  rintro e w1 ⟨r, rfl, hr, hb⟩
  have HR := hid hr
  clear hr
  go_wp2_with fail
  go_ret
  exact ⟨ret_bool HR.out, hb⟩

set_option maxHeartbeats 1000000 in
theorem isFlow_any (x y : Int) (a : Option Addr) (n c : Nat) (l : List (Int × Int)) (w : World) (h : Inss w a n c l) :
    Calls Tryz.prog 102 #[.agg #[.int .i64 x, .int .i64 y, .slice a n c]] w fun e w' => e = .returned (.bool (codeB l)) ∧ Below w.heap.size w w' := by
  have L := hid h.len
  have hr := h.room
  have hcp := h.cap
  by_cases h1 : n < 1
  · have F := hid (codeB_short (l := l) (by have := L.out; omega))
    go_enter Tryz.func102, Tryz.ntmps102
    go_wp2
    go_ret
    exact ⟨ret_bool F.out.symm, by go_grown⟩
  by_cases h2 : 64 < n
  · have F := hid (codeB_short (l := l) (by have := L.out; omega))
    go_enter Tryz.func102, Tryz.ntmps102
    go_wp2
    go_ret
    exact ⟨ret_bool F.out.symm, by go_grown⟩
  have HI := hid h
  clear h
  go_enter Tryz.func102, Tryz.ntmps102
  go_wp2_with fail
  refine (containsFlow_any _ _ _ l _ (HI.out.kept (by go_grown))).mono ?_
  rintro e w1 ⟨rfl, hb⟩
  have B : Hid (Below w.heap.size w w1) := hid (kt (by go_grown) hb)
  clear hb
  cases hm : (l.all fun p => mayB p.1 p.2)
  · have F := hid (codeB_not hm)
    go_wp2_with fail
    go_ret
    exact ⟨ret_bool (by rw [F.out]), B.out⟩
  · have F := hid (codeB_yes (by have := L.out; omega) hm)
    go_wp2_with fail
    go_ret
    exact ⟨ret_bool (by rw [F.out]), B.out⟩

theorem hasB_no {l : List Int} {x : Int} (h : ∀ i, i < l.length → ¬ l.getD i 0 = x) : hasB l x = false := by
  simp only [hasB, decide_eq_false_iff_not]
  intro hm
  obtain ⟨i, hi, e⟩ := List.getElem_of_mem hm
  exact h i hi (by simp [List.getD_eq_getElem?_getD, hi, e])
theorem hasB_yes {l : List Int} {x : Int} {i : Nat} (hi : i < l.length) (h : l.getD i 0 = x) : hasB l x = true := by
  simp only [hasB, decide_eq_true_eq, ← h]
  simp [List.getD_eq_getElem?_getD, hi]

set_option maxHeartbeats 1000000 in
theorem indexInt_any (a : Option Addr) (n c : Nat) (l : List Int) (x : Int) (w : World) (h : Ints w a n c l) :
    Calls Tryz.prog 138 #[.slice a n c, .int .i64 x] w fun e w' => ∃ r : Int, e = .returned (.int .i64 r) ∧ decide (0 ≤ r) = hasB l x ∧ w' = w := by
  have L := hid h.len
  have hr := h.room
  have hcp := h.cap
  go_enter Tryz.func138, Tryz.ntmps138
  go_wp2
  go_loopw [8] (fun i wr => ∃ q : Nat, q ≤ n ∧ i = .int .i64 q ∧ (∀ j, j < q → ¬ l.getD j 0 = x) ∧ wr = w) (fun i _ => n - (intOf i).toNat)
  case atStart => exact ⟨0, Nat.zero_le _, rfl, fun j hj => by omega, rfl⟩
  case round =>
    obtain ⟨q, hq, rfl, ht, rfl⟩ := hrel
    have HT := hid ht
    clear ht
    by_cases hlt : q < n
    · obtain ⟨b1, o1, rfl, hrow⟩ := h.row (by omega)
      have c1 := hrow q hlt
      generalize hy : l.getD q 0 = y at c1
      have HY := hid hy
      clear hy hrow
      by_cases e1 : x = y
      · subst e1
        go_wp2
        go_ret
        exact ⟨_, rfl, by rw [hasB_yes (by have := L.out; omega) HY.out]; simp, rfl⟩
      · have e2 : (x == y) = false := by simp [e1]
        clear e1
        go_wp2
        go_roundw
        case rel => exact ⟨q + 1, by omega, by go_num, (fun j hj => by
          rcases Nat.lt_or_ge j q with h' | h'
          · exact HT.out j h'
          · have : j = q := by omega
            rw [this, HY.out]; simp at e2; omega), by first | rfl | trivial⟩
        case measure => simp [intOf]; omega
    · go_wp2
      go_ret
      exact ⟨_, rfl, by rw [hasB_no (fun i hi => HT.out i (by have := L.out; omega))]; simp, rfl⟩

set_option maxHeartbeats 400000 in
theorem containsInt_any (a : Option Addr) (n c : Nat) (l : List Int) (x : Int) (w : World) (h : Ints w a n c l) :
    Calls Tryz.prog 127 #[.slice a n c, .int .i64 x] w fun e w' => e = .returned (.bool (hasB l x)) ∧ w' = w := by
  go_enter Tryz.func127, Tryz.ntmps127
  go_wp2_with fail
  refine (indexInt_any _ _ _ l x _ h).mono ?_
  rintro e w1 ⟨r, rfl, hr, rfl⟩
  have HR := hid hr
  clear hr
  go_wp2_with fail
  go_ret
  exact ⟨ret_bool HR.out, rfl⟩

end Go.Proofs.YtaimpljkbpnigaaGreatDoor

namespace Go.Proofs.YtaimpljkbpnigaaGreatDoor
open Go.RowKit
set_option linter.unusedVariables false

theorem Tryz.infoInt : (Tryz.prog.info? 3).map (fun i => (i.zero, i.size, i.bytes)) = some (some (.int .i64 0), 1, 8) := by kernel_rfl

/-- The list that add grows: in the cell at block T, its row among the blocks from H on. -/
structure AddSt (w : World) (T H : Nat) (xs : List Int) : Prop where
  ex : ∃ va vn vc, w.cell? ⟨T, 0, none⟩ = some (.slice va vn vc) ∧ w.frozen? ⟨T, 0, none⟩ = false ∧ w.ownsRow H 3 1 (.slice va vn vc) xs.length (ints xs)

theorem ints_snoc {w : World} {base e : Nat} {v : Value} {xs : List Int} {x : Int} (h : w.ownsRow base e 1 v (xs.length + 1) (ints xs ++ [.int .i64 x])) : w.ownsRow base e 1 v (xs ++ [x]).length (ints (xs ++ [x])) := by
  rw [ints_app, List.length_append]; exact h

set_option maxHeartbeats 1000000 in
theorem add_any (x : Int) (C T H : Nat) (sa : Option Addr) (n c : Nat) (xs : List Int) (w : World) (hl : xs.length ≤ 100) (hC : w.cell? ⟨C, 0, none⟩ = some (.slice sa n c)) (st : AddSt w T H xs) (hCT : C ≠ T) (hTH : T < H) (hH : H ≤ w.heap.size) :
    Calls Tryz.prog 125 #[.int .i64 x, .pointer (some ⟨C, 0, none⟩), .pointer (some ⟨T, 0, none⟩)] w fun e w' => e = .returned (.tuple #[]) ∧ AddSt w' T H (addN n xs x) ∧ Frm (fun k => k = T ∨ H ≤ k) w w' := by
  obtain ⟨i0, hi, hz0, hz1, hz2⟩ := info_parts Tryz.infoInt
  obtain ⟨va, vn, vc, hT, hf, ho⟩ := st.ex
  obtain ⟨_, _, _, e0, HI⟩ := ints_of_owns ho (by omega)
  cases e0
  cases hin : inB n x
  · go_enter Tryz.func125, Tryz.ntmps125
    go_wp2_with (first | (go_at_call 126; refine (isIn_any _ _ _ _ _).mono ?_; rintro e w' ⟨rfl, hw⟩; rw [hw]; clear hw))
    go_end0
    exact ⟨rfl, by rw [addN_out hin]; exact st, Frm.refl _ _⟩
  cases hhas : hasB xs x
  rotate_left
  · go_enter Tryz.func125, Tryz.ntmps125
    go_wp2_with (first | (go_at_call 126; refine (isIn_any _ _ _ _ _).mono ?_; rintro e w' ⟨rfl, hw⟩; rw [hw]; clear hw) | (go_at_call 127; refine (containsInt_any _ _ _ xs _ _ HI).mono ?_; rintro e w' ⟨rfl, hw⟩; rw [hw]; clear hw))
    go_end0
    exact ⟨rfl, by rw [addN_has hhas]; exact st, Frm.refl _ _⟩
  have hTl := lt_of_cell hT
  have hB : Below w.heap.size w (w.alloc (.cells #[.int .i64 x] 3)) := Below.alloc (Below.refl _ _) (Nat.le_refl _) _
  have HO : Hid ((w.alloc (.cells #[.int .i64 x] 3)).ownsRow H 3 1 (.slice va vn vc) xs.length (ints xs)) := hid (owns_kept ho hB)
  have hnews := World.news_of_block (heap_alloc_new w (.cells #[.int .i64 x] 3))
  have hne : some T ≠ (Value.slice va vn vc).ownBlock := fun h => by have := (ho.lt _ h.symm).1; omega
  have HN := hid hne
  have J := hid (And.intro (kept_cell hB hT) ((hB.frozen (p := ⟨T, 0, none⟩) hTl).trans hf))
  have G0 := hid (And.intro hl hH)
  clear hne ho
  go_enter Tryz.func125, Tryz.ntmps125
  go_wp2_with (first | (go_at_call 126; refine (isIn_any _ _ _ _ _).mono ?_; rintro e w' ⟨rfl, hw⟩; rw [hw]; clear hw) | (go_at_call 127; refine (containsInt_any _ _ _ xs _ _ HI).mono ?_; rintro e w' ⟨rfl, hw⟩; rw [hw]; clear hw) | (at_builtin; go_must ((refine wpList_append_lies _ rfl _ _ 42 rfl H 3 i0 (.int .i64 0) 1 8 Tryz.underlying42 hi hz0 hz1 hz2 rfl (by decide) (.slice va vn vc) xs.length (ints xs) rfl HO.out ⟨w.heap.size, 0, none⟩ 1 1 [.int .i64 x] rfl rfl hnews (by intro u hu; simp at hu; subst hu; rfl) (by decide) (by unfold maxLen; have := G0.out.1; omega) (by have := G0.out.1; omega) (by simp; have := G0.out.2; omega) (w.heap.size + 1) (by simp) ?_; intro g cap w6 ho6 hg6 hat hlt6; have q2 := hg6.cell J.out.1 HN.out; have qf2 := (hg6.frozen_far ⟨T, 0, none⟩ (lt_of_cell J.out.1) HN.out).trans J.out.2; have P := hid (And.intro ho6 (And.intro hg6 hlt6)); clear ho6 hg6 hat hlt6))))
  go_end0
  obtain ⟨p1, p2, p3⟩ := P.out
  refine ⟨rfl, ⟨_, _, _, World.cell?_setCell_same _ _ _ q2, by simp [qf2], ?_⟩, ?_⟩
  · rw [addN_yes hin hhas]
    exact ints_snoc (owns_set p1 _ _ (by simpa using hTH))
  · refine ((Frm.of_below hB).trans (Frm.of_grown (S := fun k => k = T ∨ H ≤ k) p2 (fun k hk => .inr (HO.out.lt k hk).1)) (fun _ _ h => h)).trans (Frm.set (S := fun k => k = T ∨ H ≤ k) _ (.inl rfl)) (fun _ _ h => h)

/-- Behind the calls of add: what next returns. -/
theorem AddSt.out {w w' : World} {T H : Nat} {xs : List Int} (h : AddSt w' T H xs) (hb : w.heap.size ≤ H) : ∃ va vn vc, w'.cell? ⟨T, 0, none⟩ = some (.slice va vn vc) ∧ w'.ownsRow w.heap.size 3 1 (.slice va vn vc) xs.length (ints xs) := by
  obtain ⟨va, vn, vc, h1, _, h2⟩ := h.ex
  exact ⟨va, vn, vc, h1, owns_base h2 hb⟩

/-- The world as next has it ahead of its tests. -/
def nextW (w : World) (a : Option Addr) (n c : Nat) (x y : Int) : World := ((w.alloc (.cells #[.slice a n c] 48)).alloc (.cells #[.slice none 0 0] 42)).alloc (.cells #[.int .i64 x, .int .i64 y] 47)
theorem nextW_add (w : World) (a : Option Addr) (n c : Nat) (x y : Int) : AddSt (nextW w a n c x y) (w.heap.size + 1) (w.heap.size + 3) [] :=
  ⟨none, 0, 0, by simp [nextW, go_sem], by simp [nextW, go_sem], World.ownsRow_nil _ _ _ _⟩
theorem nextW_size (w : World) (a : Option Addr) (n c : Nat) (x y : Int) : (nextW w a n c x y).heap.size = w.heap.size + 3 := by simp [nextW]
theorem nextW_code (w : World) (a : Option Addr) (n c : Nat) (x y : Int) : (nextW w a n c x y).cell? ⟨w.heap.size, 0, none⟩ = some (.slice a n c) := by simp [nextW, go_sem]
theorem nextW_x (w : World) (a : Option Addr) (n c : Nat) (x y : Int) : (nextW w a n c x y).cell? ⟨w.heap.size + 1 + 1, 0, none⟩ = some (.int .i64 x) := by simp [nextW, go_sem]
theorem nextW_y (w : World) (a : Option Addr) (n c : Nat) (x y : Int) : (nextW w a n c x y).cell? ⟨w.heap.size + 1 + 1, 1, none⟩ = some (.int .i64 y) := by simp [nextW, go_sem]
theorem nextW_below (w : World) (a : Option Addr) (n c : Nat) (x y : Int) : Below w.heap.size w (nextW w a n c x y) :=
  Below.alloc (Below.alloc (Below.alloc (Below.refl _ _) (Nat.le_refl _) _) (by simp) _) (by simp; omega) _
theorem nextW_done {w w' : World} {a : Option Addr} {n c : Nat} {x y : Int} (h : Frm (fun k => k = w.heap.size + 1 ∨ w.heap.size + 3 ≤ k) (nextW w a n c x y) w') : Below w.heap.size w w' :=
  (nextW_below w a n c x y).trans (h.below (by rw [nextW_size]; omega) (fun k hk => by omega))

set_option maxHeartbeats 2000000 in
theorem next_any (p : Nat) (a : Option Addr) (n c : Nat) (l : List (Int × Int)) (w : World) (h : Inss w a n c l) (hp : p < n) :
    Calls Tryz.prog 104 #[.slice a n c, .int .i64 p] w fun e w' => ∃ v, e = .returned v ∧ w'.ownsRow w.heap.size 3 1 v (nextL l p).length (ints (nextL l p)) ∧ Below w.heap.size w w' := by
  have hr := h.room
  have hcp := h.cap
  have L := hid h.len
  obtain ⟨b1, o1, x, y, rfl, e1, c1, c2⟩ := h.at p hp
  rw [nextL_at L.out e1]
  clear e1 h
  have z1 := World.new_ne _ _ c1
  have hlt1 := lt_of_cell c1
  by_cases k12 : x = 12
  · subst k12
    rw [nextOf_br rfl, fallL_no (.inl rfl)]
    have hb12 : isBr 12 = true := rfl
    go_enter Tryz.func104, Tryz.ntmps104
    go_wp2_with (first | (go_at_call 128; refine (isBranch_any _ _).mono ?_; rintro e w' ⟨rfl, hw⟩; rw [hw]; clear hw))
    refine (add_any y _ (w.heap.size + 1) (w.heap.size + 3) _ n c [] (nextW w (some ⟨b1, o1, none⟩) n c 12 y) (by simp) (nextW_code _ _ _ _ _ _) (nextW_add _ _ _ _ _ _) (by omega) (by omega) (by rw [nextW_size]; omega)).mono ?_
    rintro e w1 ⟨rfl, st, fr⟩
    obtain ⟨va, vn, vc, d1, d2⟩ := st.out (w := w) (by omega)
    go_wp2_with fail
    go_ret
    exact ⟨_, rfl, d2, nextW_done fr⟩
  by_cases k16 : x = 16
  · subst k16
    rw [nextOf_no rfl, fallL_no (.inr rfl)]
    have hb16 : isBr 16 = false := rfl
    go_enter Tryz.func104, Tryz.ntmps104
    go_wp2_with (first | (go_at_call 128; refine (isBranch_any _ _).mono ?_; rintro e w' ⟨rfl, hw⟩; rw [hw]; clear hw))
    go_ret
    exact ⟨_, rfl, World.ownsRow_nil _ _ _ _, nextW_below w (some ⟨b1, o1, none⟩) n c 16 y⟩
  have m12 : (x != 12) = true := by simp [k12]
  have m16 : (x != 16) = true := by simp [k16]
  cases hbr : isBr x
  · rw [nextOf_no hbr, fallL_yes k12 k16]
    go_enter Tryz.func104, Tryz.ntmps104
    go_wp2_with fail
    refine (add_any (p + 1) _ (w.heap.size + 1) (w.heap.size + 3) _ n c [] (nextW w (some ⟨b1, o1, none⟩) n c x y) (by simp) (nextW_code _ _ _ _ _ _) (nextW_add _ _ _ _ _ _) (by omega) (by omega) (by rw [nextW_size]; omega)).mono ?_
    rintro e w1 ⟨rfl, st, fr⟩
    have d0 := fr.cell (nextW_x w (some ⟨b1, o1, none⟩) n c x y) (by omega)
    obtain ⟨va, vn, vc, d1, d2⟩ := st.out (w := w) (by omega)
    go_wp2_with (first | (go_at_call 128; refine (isBranch_any _ _).mono ?_; rintro e w' ⟨rfl, hw⟩; rw [hw]; clear hw))
    go_ret
    exact ⟨_, rfl, d2, nextW_done fr⟩
  · rw [nextOf_br hbr, fallL_yes k12 k16]
    go_enter Tryz.func104, Tryz.ntmps104
    go_wp2_with fail
    refine (add_any (p + 1) _ (w.heap.size + 1) (w.heap.size + 3) _ n c [] (nextW w (some ⟨b1, o1, none⟩) n c x y) (by simp) (nextW_code _ _ _ _ _ _) (nextW_add _ _ _ _ _ _) (by omega) (by omega) (by rw [nextW_size]; omega)).mono ?_
    rintro e w1 ⟨rfl, st, fr⟩
    have d0 := fr.cell (nextW_x w (some ⟨b1, o1, none⟩) n c x y) (by omega)
    have d0' := fr.cell (nextW_y w (some ⟨b1, o1, none⟩) n c x y) (by omega)
    have d1 := fr.cell (nextW_code w (some ⟨b1, o1, none⟩) n c x y) (by omega)
    have hs := fr.size
    rw [nextW_size] at hs
    go_wp2_with (first | (go_at_call 128; refine (isBranch_any _ _).mono ?_; rintro e w' ⟨rfl, hw⟩; rw [hw]; clear hw))
    refine (add_any y _ (w.heap.size + 1) (w.heap.size + 3) _ n c _ w1 (by have := addN_len n [] (p + 1); simp at this; omega) d1 st (by omega) (by omega) hs).mono ?_
    rintro e w2 ⟨rfl, st2, fr2⟩
    obtain ⟨va, vn, vc, d1', d2'⟩ := st2.out (w := w) (by omega)
    go_wp2_with fail
    go_ret
    exact ⟨_, rfl, d2', nextW_done (fr.trans fr2 (fun _ _ h => h))⟩

set_option maxHeartbeats 1000000 in
theorem flowNext_any (x y pc : Int) (a : Option Addr) (n c : Nat) (l : List (Int × Int)) (w : World) (h : Inss w a n c l) :
    Calls Tryz.prog 130 #[.agg #[.int .i64 x, .int .i64 y, .slice a n c], .int .i64 pc] w fun e w' => ∃ v, e = .returned (.tuple #[v, .int .i64 (nxE l pc)]) ∧ w'.ownsRow w.heap.size 3 1 v (nxL l pc).length (ints (nxL l pc)) ∧ Below w.heap.size w w' := by
  have L := hid h.len
  cases hc : codeB l
  · have E : nxOk l pc = false := by simp [nxOk, hc]
    rw [show nxE l pc = 400 by simp [nxE, E], show nxL l pc = [] by simp [nxL, E]]
    go_enter Tryz.func130, Tryz.ntmps130
    go_wp2_with fail
    refine (isFlow_any _ _ _ _ _ l _ (h.kept (by go_grown))).mono ?_
    rintro e w1 ⟨rfl, hb⟩
    have B : Hid (Below w.heap.size w w1) := hid (kt (by go_grown) hb)
    clear hb
    go_wp2_with fail
    go_ret2
    exact ⟨_, rfl, World.ownsRow_nil _ _ _ _, B.out⟩
  cases hin : inB n pc
  · have E : nxOk l pc = false := by rw [nxOk, ← L.out, hin]; simp
    rw [show nxE l pc = 400 by simp [nxE, E], show nxL l pc = [] by simp [nxL, E]]
    go_enter Tryz.func130, Tryz.ntmps130
    go_wp2_with fail
    refine (isFlow_any _ _ _ _ _ l _ (h.kept (by go_grown))).mono ?_
    rintro e w1 ⟨rfl, hb⟩
    have B : Hid (Below w.heap.size w w1) := hid (kt (by go_grown) hb)
    have d := kept_cell hb (b := w.heap.size) (o := 2) (v := .slice a n c) (by simp [go_sem])
    clear hb
    go_wp2_with (first | (go_at_call 126; refine (isIn_any _ _ _ _ _).mono ?_; rintro e w' ⟨rfl, hw⟩; rw [hw]; clear hw))
    go_ret2
    exact ⟨_, rfl, World.ownsRow_nil _ _ _ _, B.out⟩
  · have E : nxOk l pc = true := by rw [nxOk, ← L.out, hin, hc]; rfl
    rw [show nxE l pc = 0 by simp [nxE, E], show nxL l pc = nextL l pc.toNat by simp [nxL, E]]
    have hpc : 0 ≤ pc ∧ pc < n := by simpa [inB] using hin
    obtain ⟨p, rfl⟩ : ∃ p : Nat, pc = p := ⟨pc.toNat, by omega⟩
    go_enter Tryz.func130, Tryz.ntmps130
    go_wp2_with fail
    refine (isFlow_any _ _ _ _ _ l _ (h.kept (by go_grown))).mono ?_
    rintro e w1 ⟨rfl, hb⟩
    have B : Hid (Below w.heap.size w w1) := hid (kt (by go_grown) hb)
    have d := kept_cell hb (b := w.heap.size) (o := 2) (v := .slice a n c) (by simp [go_sem])
    have HI := hid ((h.kept (by go_grown)).kept hb)
    clear hb h
    go_wp2_with (first | (go_at_call 126; refine (isIn_any _ _ _ _ _).mono ?_; rintro e w' ⟨rfl, hw⟩; rw [hw]; clear hw))
    refine (next_any p _ _ _ l _ HI.out (by omega)).mono ?_
    rintro e w2 ⟨v, rfl, ho, hb⟩
    go_wp2_with fail
    go_ret2
    exact ⟨_, rfl, owns_base ho B.out.size, kt B.out hb⟩

end Go.Proofs.YtaimpljkbpnigaaGreatDoor

namespace Go.Proofs.YtaimpljkbpnigaaGreatDoor
open Go.RowKit
set_option linter.unusedVariables false

theorem Tryz.infoBool : (Tryz.prog.info? 4).map (fun i => (i.zero, i.size, i.bytes)) = some (some (.bool false), 1, 1) := by kernel_rfl

/-- n marks, in a row of their own at block g. -/
structure MarkSt (w : World) (g n base : Nat) (bs : List Bool) : Prop where
  len : bs.length = n
  row : w.ownsRow base 4 1 (.slice (some ⟨g, 0, none⟩) n n) n (bools bs)
theorem MarkSt.at {w : World} {g n base : Nat} {bs : List Bool} (h : MarkSt w g n base bs) (i : Nat) (hi : i < n) : w.cell? ⟨g, i, none⟩ = some (.bool (bs.getD i false)) := by
  rw [h.row.cellAt i (by omega), bools_at bs i (by have := h.len; omega)]
theorem MarkSt.free {w : World} {g n base : Nat} {bs : List Bool} (h : MarkSt w g n base bs) (i : Nat) : w.frozen? ⟨g, i, none⟩ = false := h.row.frozenAt i
theorem MarkSt.put {w : World} {g n base : Nat} {bs : List Bool} (h : MarkSt w g n base bs) (i : Nat) : MarkSt (w.setCell ⟨g, i, none⟩ (.bool true)) g n base (bs.set i true) := by
  refine ⟨by simpa using h.len, ?_⟩
  have := (h.row.stored i (.bool true)).1
  rw [bools_set] at this
  exact this
theorem MarkSt.kept {w w' : World} {g n base : Nat} {bs : List Bool} (h : MarkSt w g n base bs) (hb : Below w.heap.size w w') : MarkSt w' g n base bs := ⟨h.len, owns_kept h.row hb⟩
theorem MarkSt.frm {S : Nat → Prop} {w w' : World} {g n base : Nat} {bs : List Bool} (h : MarkSt w g n base bs) (hf : Frm S w w') (hg : ¬ S g) : MarkSt w' g n base bs := ⟨h.len, hf.owns h.row (fun k hk => by cases hk; exact hg)⟩
theorem MarkSt.lt {w : World} {g n base : Nat} {bs : List Bool} (h : MarkSt w g n base bs) : base ≤ g ∧ g < w.heap.size := h.row.lt g rfl
theorem MarkSt.make (w : World) (n base : Nat) (hb : base ≤ w.heap.size) (hn : n ≤ maxLen) : MarkSt (w.alloc (.cells (madeCells #[.bool false] n) 4)) w.heap.size n base (List.replicate n false) := by
  refine ⟨by simp, ?_⟩
  have := World.ownsRow_lit (e := 4) (size := 1) w (madeCells #[.bool false] n) n hb hn (by simp [madeCells])
  rw [toList_madeCells_one, bools_rep] at this
  exact this

/-- The world behind the marks and the cell that holds them. -/
def markW (w : World) (n : Nat) : World := (w.alloc (.cells (madeCells #[.bool false] n) 4)).alloc (.cells #[.slice (some ⟨w.heap.size, 0, none⟩) n n] 114)
theorem markW_below (w : World) (n : Nat) : Below w.heap.size w (markW w n) := Below.alloc (Below.alloc (Below.refl _ _) (Nat.le_refl _) _) (by simp) _
theorem markW_cell (w : World) (n : Nat) : (markW w n).cell? ⟨w.heap.size + 1, 0, none⟩ = some (.slice (some ⟨w.heap.size, 0, none⟩) n n) := by simp [markW, go_sem]
theorem markW_free (w : World) (n : Nat) : (markW w n).frozen? ⟨w.heap.size + 1, 0, none⟩ = false := by simp [markW, go_sem]
theorem markW_size (w : World) (n : Nat) : (markW w n).heap.size = w.heap.size + 2 := by simp [markW]
theorem markW_st (w : World) (n base : Nat) (hb : base ≤ w.heap.size) (hn : n ≤ maxLen) : MarkSt (markW w n) w.heap.size n base (List.replicate n false) :=
  (MarkSt.make w n base hb hn).kept (Below.alloc (Below.refl _ _) (Nat.le_refl _) _)

end Go.Proofs.YtaimpljkbpnigaaGreatDoor

namespace Go.Proofs.YtaimpljkbpnigaaGreatDoor
open Go.RowKit
set_option linter.unusedVariables false

/-- The work list in the cell at block W, its row among the blocks from H on. -/
structure WorkSt (w : World) (W H : Nat) (ws : List Int) (v : Value) : Prop where
  cell : w.cell? ⟨W, 0, none⟩ = some v
  free : w.frozen? ⟨W, 0, none⟩ = false
  row : w.ownsRow H 3 1 v ws.length (ints ws)

set_option maxHeartbeats 2000000 in
theorem reach_any (x R W H g n base : Nat) (bs : List Bool) (ws : List Int) (v : Value) (w : World) (hR : w.cell? ⟨R, 0, none⟩ = some (.slice (some ⟨g, 0, none⟩) n n)) (hn : n ≤ 64) (hx : x < n) (ms : MarkSt w g n base bs) (wk : WorkSt w W H ws v) (hl : ws.length ≤ 100)
    (hgW : g ≠ W) (hRg : R ≠ g) (hRW : R ≠ W) (hgH : g < H) (hWH : W < H) (hH : H ≤ w.heap.size) :
    Calls Tryz.prog 103 #[.int .i64 x, .pointer (some ⟨R, 0, none⟩), .pointer (some ⟨W, 0, none⟩)] w fun e w' => e = .returned (.tuple #[]) ∧ ∃ v', MarkSt w' g n base (rch (bs, ws) x).1 ∧ WorkSt w' W H (rch (bs, ws) x).2 v' ∧
      Frm (fun k => k = g ∨ k = W ∨ v.ownBlock = some k) w w' ∧ (v'.ownBlock = v.ownBlock ∨ ∃ g', v'.ownBlock = some g' ∧ w.heap.size ≤ g') := by
  obtain ⟨i0, hi, hz0, hz1, hz2⟩ := info_parts Tryz.infoInt
  obtain ⟨va, vn, vc, rfl, HI⟩ := ints_of_owns wk.row (by omega)
  have c1 := ms.at x hx
  cases hb : bs.getD x false
  rotate_left
  · rw [hb] at c1
    rw [show rch (bs, ws) (x : Int) = (bs, ws) by unfold rch; rw [if_pos (by simpa using hb)]]
    go_enter Tryz.func103, Tryz.ntmps103
    go_wp2_with fail
    go_end0
    exact ⟨rfl, _, ms, wk, Frm.refl _ _, .inl rfl⟩
  · rw [hb] at c1
    have f1 := ms.free x
    have e1 : rch (bs, ws) (x : Int) = (bs.set x true, ws ++ [(x : Int)]) := by unfold rch; rw [if_neg (by simpa using hb)]; simp
    rw [e1]
    have hW := wk.cell
    have hWl := lt_of_cell hW
    have hf := wk.free
    have fr1 : Frm (fun k => k = g) w ((w.setCell ⟨g, x, none⟩ (.bool true)).alloc (.cells #[.int .i64 x] 3)) :=
      (Frm.set (S := fun k => k = g) (.bool true) rfl).trans (Frm.of_below (S := fun k => k = g) (Below.alloc (Below.refl _ _) (Nat.le_refl _) _)) (fun _ _ h => h)
    have hne : ∀ k, (Value.slice va vn vc).ownBlock = some k → H ≤ k ∧ k < w.heap.size := wk.row.lt
    have HO : Hid (((w.setCell ⟨g, x, none⟩ (.bool true)).alloc (.cells #[.int .i64 x] 3)).ownsRow H 3 1 (.slice va vn vc) ws.length (ints ws)) := hid (fr1.owns wk.row (fun k hk => by have := hne k hk; omega))
    have hnews := World.news_of_block (heap_alloc_new (w.setCell ⟨g, x, none⟩ (.bool true)) (.cells #[.int .i64 x] 3))
    simp only [World.size_setCell] at hnews
    have HN : Hid (some W ≠ (Value.slice va vn vc).ownBlock ∧ some g ≠ (Value.slice va vn vc).ownBlock) := hid ⟨fun h => by have := hne _ h.symm; omega, fun h => by have := hne _ h.symm; omega⟩
    have J := hid (And.intro (fr1.cell hW (by omega)) (fr1.free hW hf (by omega)))
    have M := hid ((ms.put x).kept (Below.alloc (Below.refl _ _) (Nat.le_refl _) (.cells #[.int .i64 x] 3)))
    have G0 := hid (And.intro hl hH)
    have NE := hid hne
    have FR := hid fr1
    clear hne fr1 ms wk e1 HI hb
    go_enter Tryz.func103, Tryz.ntmps103
    go_wp2_with (first | (at_builtin; go_must ((refine wpList_append_lies _ rfl _ _ 42 rfl H 3 i0 (.int .i64 0) 1 8 Tryz.underlying42 hi hz0 hz1 hz2 rfl (by decide) (.slice va vn vc) ws.length (ints ws) rfl HO.out ⟨w.heap.size, 0, none⟩ 1 1 [.int .i64 x] rfl rfl hnews (by intro u hu; simp at hu; subst hu; rfl) (by decide) (by unfold maxLen; have := G0.out.1; omega) (by have := G0.out.1; omega) (by simp; have := G0.out.2; omega) (w.heap.size + 1) (by simp) ?_; intro g' cap w6 ho6 hg6 hat hlt6; have q2 := hg6.cell J.out.1 HN.out.1; have qf2 := (hg6.frozen_far ⟨W, 0, none⟩ (lt_of_cell J.out.1) HN.out.1).trans J.out.2; have P := hid (And.intro ho6 (And.intro hg6 hat)); clear ho6 hg6 hat hlt6))))
    go_end0
    obtain ⟨p1, p2, p3⟩ := P.out
    refine ⟨rfl, _, ⟨M.out.len, ?_⟩, ⟨World.cell?_setCell_same _ _ _ q2, by simp [qf2], ints_snoc (owns_set p1 _ _ hWH)⟩, ?_, ?_⟩
    · exact (Frm.set (S := fun k => k = W) (w := w6) (p := ⟨W, 0, none⟩) _ rfl).owns (M.out.row.kept p2 (.inr HN.out.2)) (fun k hk => by cases hk; exact hgW)
    · refine ((Frm.trans (S := fun k => k = g ∨ k = W ∨ (Value.slice va vn vc).ownBlock = some k) ⟨FR.out.os, FR.out.tape, FR.out.output, FR.out.size, fun k hk hn => FR.out.block k hk (fun e => hn (.inl e))⟩ (Frm.of_grown (S := fun k => (Value.slice va vn vc).ownBlock = some k) p2 (fun k hk => hk)) (fun _ _ h => .inr (.inr h)))).trans (Frm.set (S := fun k => k = W) (p := ⟨W, 0, none⟩) _ rfl) (fun _ _ h => .inr (.inl h))
    · rcases p3 with h | h
      · exact .inl (by rw [h]; rfl)
      · exact .inr ⟨g', rfl, by omega⟩

end Go.Proofs.YtaimpljkbpnigaaGreatDoor

namespace Go.Proofs.YtaimpljkbpnigaaGreatDoor
open Go.RowKit
set_option linter.unusedVariables false

/-- What Reached answers: the marks of what is reached, or none. -/
def Rd (l : List (Int × Int)) (bs : List Bool) : Prop := (codeB l = true ∧ Marked l bs) ∨ (codeB l = false ∧ bs = [])
theorem Rd.eq {l : List (Int × Int)} {a b : List Bool} (h : Rd l a) (k : Rd l b) : a = b := by
  rcases h with ⟨h1, h2⟩ | ⟨h1, rfl⟩
  · rcases k with ⟨_, k2⟩ | ⟨k1, _⟩
    · exact h2.eq k2
    · rw [h1] at k1; cases k1
  · rcases k with ⟨k1, _⟩ | ⟨_, rfl⟩
    · rw [h1] at k1; cases k1
    · rfl
theorem Rd.len {l : List (Int × Int)} {a : List Bool} (h : Rd l a) : a.length ≤ 64 := by
  rcases h with ⟨h1, h2⟩ | ⟨_, rfl⟩
  · rw [h2.1]; simp [codeB] at h1; exact h1.1.2
  · simp
theorem not3 {a b c : Prop} (h1 : ¬ a) (h2 : ¬ b) (h3 : ¬ c) : ¬ (a ∨ b ∨ c) := by
  rintro (h | h | h)
  · exact h1 h
  · exact h2 h
  · exact h3 h
theorem snoc_of {α : Type} (l : List α) (h : 0 < l.length) : ∃ r x, l = r ++ [x] := by
  have hne : l ≠ [] := by intro e; subst e; simp at h
  exact ⟨l.dropLast, l.getLast hne, (List.dropLast_concat_getLast hne).symm⟩
theorem rchs_take {s : List Bool × List Int} {xs : List Int} {j : Nat} {x : Int} (hj : j < xs.length) (e : xs.getD j 0 = x) : rchs s (xs.take (j + 1)) = rch (rchs s (xs.take j)) x := by
  rw [take_snoc_getD hj e, rchs_snoc]
theorem rchs_bound {s : List Bool × List Int} {xs : List Int} (h : ∀ x ∈ xs, 0 ≤ x ∧ x < s.1.length) (j : Nat) : (rchs s (xs.take j)).2.length ≤ unm s.1 + s.2.length := by
  have := (rchs_all (s := s) (xs := xs.take j) (fun x hx => h x (List.mem_of_mem_take hx))).2.1
  omega

/-- The world as Reached has it ahead of its first mark. -/
def reachW (w : World) (n : Nat) : World := (markW w n).alloc (.cells #[.slice none 0 0] 42)
theorem reachW_below (w : World) (n : Nat) : Below w.heap.size w (reachW w n) := Below.alloc (markW_below w n) (by rw [markW_size]; omega) _
theorem reachW_size (w : World) (n : Nat) : (reachW w n).heap.size = w.heap.size + 3 := by simp [reachW, markW_size]
theorem reachW_R (w : World) (n : Nat) : (reachW w n).cell? ⟨w.heap.size + 1, 0, none⟩ = some (.slice (some ⟨w.heap.size, 0, none⟩) n n) :=
  kept_cell (Below.alloc (Below.refl _ _) (Nat.le_refl _) _) (markW_cell w n)
theorem reachW_M (w : World) (n base : Nat) (hb : base ≤ w.heap.size) (hn : n ≤ maxLen) : MarkSt (reachW w n) w.heap.size n base (List.replicate n false) :=
  (markW_st w n base hb hn).kept (Below.alloc (Below.refl _ _) (Nat.le_refl _) _)
theorem reachW_W (w : World) (n : Nat) : WorkSt (reachW w n) (w.heap.size + 1 + 1) (w.heap.size + 3) [] (.slice none 0 0) := by
  have e : (markW w n).heap.size = w.heap.size + 1 + 1 := markW_size w n
  refine ⟨?_, ?_, World.ownsRow_nil _ _ _ _⟩
  · rw [← e]; simp [reachW, go_sem]
  · rw [← e]; simp [reachW, go_sem]

set_option maxRecDepth 100000 in
set_option maxHeartbeats 4000000 in
theorem reached_any (x y : Int) (a : Option Addr) (n c : Nat) (l : List (Int × Int)) (w : World) (h : Inss w a n c l) :
    Calls Tryz.prog 84 #[.agg #[.int .i64 x, .int .i64 y, .slice a n c]] w fun e w' => ∃ v bs, e = .returned (.tuple #[v, .int .i64 (cE l)]) ∧ Rd l bs ∧ w'.ownsRow w.heap.size 4 1 v bs.length (bools bs) ∧ Below w.heap.size w w' := by
  have L := hid h.len
  have hcp := h.cap
  cases hc : codeB l
  · rw [show cE l = 400 by simp [cE, hc]]
    go_enter Tryz.func84, Tryz.ntmps84
    go_wp2_with fail
    refine (isFlow_any _ _ _ _ _ l _ (h.kept (by go_grown))).mono ?_
    rintro e w1 ⟨rfl, hb⟩
    have B : Hid (Below w.heap.size w w1) := hid (kt (by go_grown) hb)
    clear hb
    go_wp2_with fail
    go_ret2
    exact ⟨_, [], rfl, .inr ⟨hc, rfl⟩, World.ownsRow_nil _ _ _ _, B.out⟩
  · have hlen : 1 ≤ n ∧ n ≤ 64 := by rw [L.out]; simp [codeB] at hc; exact hc.1
    rw [show cE l = 0 by simp [cE, hc]]
    have hmk := run_make_row' (P := Tryz.prog) 114 4 (.bool false) 1 Tryz.underlying114 Tryz.infoBool rfl .i64 .i64 n (by omega) (by omega)
    go_enter Tryz.func84, Tryz.ntmps84
    go_wp2_with fail
    refine (isFlow_any _ _ _ _ _ l _ (h.kept (by go_grown))).mono ?_
    rintro e w1 ⟨rfl, hb⟩
    have B : Hid (Below w.heap.size w w1) := hid (kt (by go_grown) hb)
    have d := kept_cell hb (b := w.heap.size) (o := 2) (v := .slice a n c) (by simp [go_sem])
    have hs : w.heap.size < w1.heap.size := by have := hb.size; simp at this; omega
    clear hb
    go_wp2_with fail
    have D := hid (kept_cell (reachW_below w1 n) d)
    have B2 : Hid (Below w.heap.size w (reachW w1 n)) := hid (kt B.out (reachW_below w1 n))
    refine (reach_any 0 (w1.heap.size + 1) (w1.heap.size + 1 + 1) (w1.heap.size + 3) w1.heap.size n w.heap.size (List.replicate n false) [] (.slice none 0 0) (reachW w1 n) (reachW_R w1 n) hlen.2 (by omega) (reachW_M w1 n _ (by omega) (by unfold maxLen; omega)) (reachW_W w1 n) (by simp) (by omega) (by omega) (by omega) (by omega) (by omega) (by rw [reachW_size]; omega)).mono ?_
    rintro e w2 ⟨rfl, v2, ms2, wk2, fr2, -⟩
    have e0 : rch (List.replicate n false, []) ((0 : Nat) : Int) = ((List.replicate l.length false).set 0 true, [0]) := by
      rw [L.out]; unfold rch; rw [if_neg]
      · simp
      · simp [List.getD_eq_getElem?_getD, List.getElem?_replicate]; split <;> simp
    rw [e0] at ms2 wk2
    have B3 : Hid (Below w.heap.size w w2) := hid (B2.out.trans (fr2.below (by have := B2.out.size; omega) (fun k hk => not3 (by omega) (by omega) (by simp [Value.ownBlock]))))
    have dF := fr2.cell D.out (not3 (by omega) (by omega) (by simp [Value.ownBlock]))
    have dR := fr2.cell (reachW_R w1 n) (not3 (by omega) (by omega) (by simp [Value.ownBlock]))
    have hs2 : w1.heap.size + 3 ≤ w2.heap.size := by have := fr2.size; rw [reachW_size] at this; exact this
    have hi := hid h
    have hr := h.room
    have K0 : Hid (unm ((List.replicate l.length false).set 0 true) + 1 = n) := hid (by
      have := unm_set (bs := List.replicate l.length false) (i := 0) (by rw [List.length_replicate, ← L.out]; omega) (by simp [List.getD_eq_getElem?_getD, List.getElem?_replicate]; split <;> simp)
      rw [unm_rep] at this; have := L.out; omega)
    clear h e0 fr2 d
    go_wp2_with fail
    go_loopg [] n (fun k wr => ∃ bs ws v, k = unm bs + ws.length ∧ k ≤ n ∧ RInv l bs ws ∧ wr.cell? ⟨w.heap.size, 2, none⟩ = some (.slice a n c) ∧ wr.cell? ⟨w1.heap.size + 1, 0, none⟩ = some (.slice (some ⟨w1.heap.size, 0, none⟩) n n) ∧ MarkSt wr w1.heap.size n w.heap.size bs ∧ WorkSt wr (w1.heap.size + 1 + 1) (w1.heap.size + 3) ws v ∧ w1.heap.size + 3 ≤ wr.heap.size ∧ Below w.heap.size w wr)
    case atStart => exact ⟨_, _, _, K0.out.symm, Nat.le_refl _, RInv.start (by have := L.out; omega), dF, dR, ms2, wk2, hs2, B3.out⟩
    case round =>
      clear dF dR ms2 wk2 hs2
      obtain ⟨bs, ws, v, hk, hkn, inv, dF, dR, ms, wk, hsz, hb⟩ := hrel
      have hlw : ws.length ≤ 64 := by omega
      have HK := hid (And.intro hk hkn)
      clear hk hkn
      by_cases hz : ws.length = 0
      · obtain rfl : ws = [] := List.length_eq_zero_iff.1 hz
        obtain ⟨va, vn, vc, rfl, hI⟩ := ints_of_owns wk.row (by omega)
        have hv0 : vn = 0 := hI.len
        subst hv0
        have cW := wk.cell
        have MS := hid ms
        have IV := hid inv
        clear ms wk hI inv hz hlw
        go_wp2_with fail
        go_ret2
        refine ⟨_, bs, rfl, .inl ⟨hc, IV.out.done⟩, ?_, hb⟩
        rw [MS.out.len]
        exact MS.out.row
      · obtain ⟨ws0, xx, rfl⟩ := snoc_of ws (by omega)
        obtain ⟨p, rfl, hpm⟩ := inv.work xx (by simp)
        have hpn : p < n := by have := getD_true_lt hpm; rw [ms.len] at this; exact this
        obtain ⟨gw, cap, rfl, hgw, hgw2⟩ := wk.row.form (by simp)
        have hcap : (ws0 ++ [(p : Int)]).length ≤ cap := by
          rcases wk.row.2 with ⟨e, _⟩ | ⟨_, _, _, e, _, _, r, _⟩
          · cases e
          · cases e; exact r
        have hl1 : (ws0 ++ [(p : Int)]).length = ws0.length + 1 := by simp
        have cW := wk.cell
        have fW := wk.free
        have cX : wr.cell? ⟨gw, ws0.length, none⟩ = some (.int .i64 p) := by
          have h1 := wk.row.cellAt ws0.length (by simp)
          rw [h1, ints_at _ _ (by simp)]
          simp [List.getD_eq_getElem?_getD]
        have ROW : Hid (wr.ownsRow (w1.heap.size + 3) 3 1 (.slice (some ⟨gw, 0, none⟩) ws0.length cap) ws0.length (ints ws0)) := hid (by
          have := wk.row
          rw [hl1, ints_app] at this
          exact ownsRow_pop (by rw [ints_len]; omega) this)
        rw [hl1] at cW hcap hlw
        have MS := hid ms
        have IV := hid inv
        have HPM := hid hpm
        clear ms wk inv hpm hz hl1
        go_wp2_with fail
        have fr0 : Frm (fun k => k = w1.heap.size + 1 + 1) wr (wr.setCell ⟨w1.heap.size + 1 + 1, 0, none⟩ (.slice (some ⟨gw, 0, none⟩) ws0.length cap)) := Frm.set _ rfl
        have hb0 : Below w.heap.size w (wr.setCell ⟨w1.heap.size + 1 + 1, 0, none⟩ (.slice (some ⟨gw, 0, none⟩) ws0.length cap)) := Below.setCell hb (by simp; omega) _
        have ms0 := MS.out.frm fr0 (by omega)
        have wk0 : WorkSt (wr.setCell ⟨w1.heap.size + 1 + 1, 0, none⟩ (.slice (some ⟨gw, 0, none⟩) ws0.length cap)) (w1.heap.size + 1 + 1) (w1.heap.size + 3) ws0 (.slice (some ⟨gw, 0, none⟩) ws0.length cap) :=
          ⟨World.cell?_setCell_same _ _ _ cW, by simp [fW], owns_set ROW.out _ _ (by simp)⟩
        have dF0 := fr0.cell dF (by omega)
        have dR0 := fr0.cell dR (by omega)
        have hu0 : (wr.setCell ⟨w1.heap.size + 1 + 1, 0, none⟩ (.slice (some ⟨gw, 0, none⟩) ws0.length cap)).heap.size = wr.heap.size := by simp
        generalize hu : wr.setCell ⟨w1.heap.size + 1 + 1, 0, none⟩ (.slice (some ⟨gw, 0, none⟩) ws0.length cap) = u0 at *
        clear hu fr0
        refine (next_any p _ _ _ l u0 (hi.out.kept hb0) hpn).mono ?_
        rintro e u1 ⟨v1, rfl, ho1, hb1⟩
        have HXI : Hid (∀ x ∈ nextL l p, 0 ≤ x ∧ x < n) := hid (fun x hx => by have := nextL_in x hx; have := L.out; omega)
        have HXL := hid (nextL_len l p)
        have STEP : Hid (RInv l (rchs (bs, ws0) (nextL l p)).1 (rchs (bs, ws0) (nextL l p)).2) := hid IV.out.step
        have SUM : Hid (unm (rchs (bs, ws0) (nextL l p)).1 + (rchs (bs, ws0) (nextL l p)).2.length = unm bs + ws0.length) := hid (rchs_all (s := (bs, ws0)) (xs := nextL l p) (fun x hx => by rw [show (bs, ws0).1.length = n from MS.out.len]; exact HXI.out x hx)).2.1
        have BND : Hid (∀ j, (rchs (bs, ws0) ((nextL l p).take j)).2.length ≤ 64) := hid (fun j => by
          have h1 := rchs_bound (s := (bs, ws0)) (xs := nextL l p) (fun x hx => by rw [show (bs, ws0).1.length = n from MS.out.len]; exact HXI.out x hx) j
          have h2 := HK.out
          simp at h1 h2
          omega)
        generalize hxs : nextL l p = xs at *
        clear hxs
        obtain ⟨a1, n1, c1, rfl, I1⟩ := ints_of_owns ho1 (by have := HXL.out; omega)
        have hn1 : Hid (n1 = xs.length) := hid I1.len
        have hcp1 := I1.cap
        have hr1 := I1.room
        have m1 := hid (ms0.kept hb1)
        have wk1 : Hid (WorkSt u1 (w1.heap.size + 1 + 1) (w1.heap.size + 3) ws0 (.slice (some ⟨gw, 0, none⟩) ws0.length cap)) := hid ⟨kept_cell hb1 wk0.cell, (hb1.frozen (p := ⟨w1.heap.size + 1 + 1, 0, none⟩) (lt_of_cell wk0.cell)).trans wk0.free, owns_kept wk0.row hb1⟩
        have dF1 := hid (kept_cell hb1 dF0)
        have dR1 := hid (kept_cell hb1 dR0)
        have hs1 : u0.heap.size ≤ u1.heap.size := hb1.size
        have B1 : Hid (Below w.heap.size w u1) := hid (kt hb0 hb1)
        have O1 := hid ho1
        have NO : Hid (∀ k, (Value.slice a1 n1 c1).ownBlock = some k → (Value.slice (some ⟨gw, 0, none⟩) ws0.length cap).ownBlock ≠ some k) := hid (fun k hk e => by
          have h1 := (ho1.lt k hk).1
          simp [Value.ownBlock] at e
          omega)
        have LO : Hid (∀ k, (Value.slice a1 n1 c1).ownBlock = some k → u0.heap.size ≤ k) := hid (fun k hk => (ho1.lt k hk).1)
        clear ho1 hb1 ms0 wk0 dF0 dR0 dF dR cW fW cX hb0 hb I1
        go_wp2_with fail
        go_loopw [39] (fun i wq => ∃ j : Nat, j ≤ n1 ∧ i = .int .i64 j ∧ ∃ v', MarkSt wq w1.heap.size n w.heap.size (rchs (bs, ws0) (xs.take j)).1 ∧ WorkSt wq (w1.heap.size + 1 + 1) (w1.heap.size + 3) (rchs (bs, ws0) (xs.take j)).2 v' ∧
          wq.cell? ⟨w.heap.size, 2, none⟩ = some (.slice a n c) ∧ wq.cell? ⟨w1.heap.size + 1, 0, none⟩ = some (.slice (some ⟨w1.heap.size, 0, none⟩) n n) ∧ wq.ownsRow u0.heap.size 3 1 (.slice a1 n1 c1) xs.length (ints xs) ∧ (∀ k, (Value.slice a1 n1 c1).ownBlock = some k → v'.ownBlock ≠ some k) ∧ wr.heap.size ≤ wq.heap.size ∧ Below w.heap.size w wq) (fun i _ => n1 - (intOf i).toNat)
        case atStart => exact ⟨0, Nat.zero_le _, rfl, _, m1.out, wk1.out, dF1.out, dR1.out, O1.out, NO.out, by omega, B1.out⟩
        case round =>
          clear m1 wk1 dF1 dR1 B1 O1 NO
          obtain ⟨j, hj, rfl, v', ms, wk, dF, dR, ho, no, hsz2, hb⟩ := hrel
          by_cases hlt : j < n1
          · obtain ⟨_, _, _, e1, I1⟩ := ints_of_owns ho (by have := HXL.out; omega)
            cases e1
            obtain ⟨b1, o1, rfl, hrow⟩ := I1.row (by omega)
            have cX := hrow j hlt
            have hmem : xs.getD j 0 ∈ xs := by have := hn1.out; simp [List.getD_eq_getElem?_getD, show j < xs.length by omega]
            have hrg := HXI.out _ hmem
            obtain ⟨q, hq⟩ : ∃ q : Nat, xs.getD j 0 = q := ⟨(xs.getD j 0).toNat, by omega⟩
            rw [hq] at cX hrg
            have HQ := hid (rchs_take (s := (bs, ws0)) (xs := xs) (j := j) (by have := hn1.out; omega) hq)
            have hqn : q < n := by omega
            have R0 := hid (And.intro ms (And.intro wk (And.intro dF (And.intro ho no))))
            have hgw3 : ∀ k, v'.ownBlock = some k → w1.heap.size + 3 ≤ k := fun k hk => (wk.row.lt k hk).1
            have HG := hid hgw3
            clear ms wk ho no hq hmem hrg hrow I1 dF hgw3
            go_wp2_with fail
            refine (reach_any q (w1.heap.size + 1) (w1.heap.size + 1 + 1) (w1.heap.size + 3) w1.heap.size n w.heap.size _ _ v' _ dR hlen.2 hqn R0.out.1 R0.out.2.1 (by have := BND.out j; omega) (by omega) (by omega) (by omega) (by omega) (by omega) (by omega)).mono ?_
            rintro e w3 ⟨rfl, v3, ms3, wk3, fr3, at3⟩
            have P3 := hid (And.intro ms3 (And.intro wk3 (And.intro fr3 at3)))
            clear ms3 wk3 fr3 at3
            go_wp2_with fail
            go_roundw
            case rel =>
              obtain ⟨ms3, wk3, fr3, at3⟩ := P3.out
              obtain ⟨_, _, dF, ho, no⟩ := R0.out
              have hlo := ho.lt
              refine ⟨j + 1, by omega, by go_num, v3, by rw [HQ.out]; exact ms3, by rw [HQ.out]; exact wk3, fr3.cell dF (not3 (by omega) (by omega) (fun h => by have := HG.out _ h; omega)), fr3.cell dR (not3 (by omega) (by omega) (fun h => by have := HG.out _ h; omega)), fr3.owns ho (fun k hk => not3 (by have := LO.out k hk; omega) (by have := LO.out k hk; omega) (no k hk)), fun k hk => ?_, by have := fr3.size; omega, ?_⟩
              · rcases at3 with h | ⟨g', h, hg'⟩
                · rw [h]; exact no k hk
                · rw [h]; intro e; cases e; have := (hlo _ hk).2; omega
              · exact hb.trans (fr3.below (by have := hb.size; omega) (fun k hk => not3 (by omega) (by omega) (fun h => by have := HG.out _ h; omega)))
            case measure => simp [intOf]; omega
          · have hjn : j = n1 := by omega
            subst hjn
            have et : xs.take j = xs := List.take_of_length_le (by have := hn1.out; omega)
            rw [et] at ms wk
            have R0 := hid (And.intro ms (And.intro wk (And.intro dF dR)))
            clear ms wk ho no dF dR et
            go_wp2_with fail
            go_roundg (unm bs + ws0.length)
            case measure => have := HK.out.1; simp at this; omega
            case rel => exact ⟨_, _, v', SUM.out.symm, by have := HK.out; simp at this; omega, STEP.out, R0.out.2.2.1, R0.out.2.2.2, R0.out.1, R0.out.2.1, by omega, hb⟩

end Go.Proofs.YtaimpljkbpnigaaGreatDoor
