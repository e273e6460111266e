/- For any program and any integer the law VerifyMore returns true: a function more, that nobody calls, or an instruction more, that is never come to, turns no height; no conditions. -/
import Derived.Test.YtnmhoahkmampkaaGreatDoorRows
import Derived.WalkKit
import Derived.ProofKit
import Derived.OpenShut
import Derived.ShutString
import Derived.ChangeOld
import Derived.Below
import Derived.Carry
import Derived.Lib.SmallJoins
import Derived.Handy
import Derived.WalkSmall
import Derived.SizedLaws
import Derived.Test.YtnmhoahkmampkaaGreatDoorOpen
import Derived.Test.YtnmhoahkmampkaaGreatDoorLaidOpenV
import Derived.Test.YtnmhoahkmampkaaGreatDoorCards
import Derived.Test.YtnmhoahkmampkaaGreatDoorTie
import Derived.SevenTiedAt
import Derived.LaidMore
import Derived.Stop.Joined
import Derived.Test.YtnmhoahkmampkaaGreatDoorAwake5
import Derived.Test.YtnmhoahkmampkaaGreatDoorPlainVer4
import Derived.Test.YtnmhoahkmampkaaGreatDoorCopy2
import Derived.Lib.QuietBelow
import Derived.Deep.QuietTactic
import Derived.Deep.RegionHeld3
import Derived.BigQuiet
namespace Go.Proofs.YtnmhoahkmampkaaGreatDoor.verifyMore
open Go.ChangeShapes Go.WideShapes Go.ChangeAt Go.RowKit
open Go.ChangeMaps (open_string shut_string)
set_option linter.unusedVariables false

theorem own : ownKnob Tryz.prog.godebug = none := by kernel_rfl
theorem laidOut : laidOutB Tryz.prog = true := by kernel_rfl

theorem num_below (x : Int) (w : World) : Calls Tryz.prog 10 #[.int .i64 x] w fun e w' => e = .returned (.int .i64 x) ∧ Below w.heap.size w w' :=
  (num_any _ _).mono (fun _ _ h => ⟨h.1, h.2 ▸ Below.refl _ _⟩)
theorem own_ty {w : World} {base e size g o n c len : Nat} {xs : List Value} (h : w.ownsRow base e size (.slice (some ⟨g, o, none⟩) n c) len xs) : ∃ cur, w.heap[g]? = some (.cells cur e (0, 0)) := by
  rcases h.2 with ⟨h0, _⟩ | ⟨g', cap, cur, h0, _, hg, _⟩
  · cases h0
  · simp only [Value.slice.injEq, Option.some.injEq, Addr.mk.injEq] at h0
    rw [h0.1.1]
    exact ⟨cur, hg⟩
theorem flat3_set : ∀ (t : List (Int × Int × Value)) (k : Nat) (x y : Int) (v : Value), k < t.length → (((flat3 t).set (k * 3) (.int .i64 x)).set (k * 3 + 1) (.int .i64 y)).set (k * 3 + 2) v = flat3 (t.set k (x, y, v))
  | [], k, x, y, v, h => by simp at h
  | p :: r, 0, x, y, v, h => by simp [flat3]
  | p :: r, k + 1, x, y, v, h => by
    have := flat3_set r k x y v (by simpa using h)
    rw [show (k + 1) * 3 = k * 3 + 1 + 1 + 1 by omega, show k * 3 + 1 + 1 + 1 + 1 = (k * 3 + 1) + 1 + 1 + 1 by omega, show k * 3 + 1 + 1 + 1 + 2 = (k * 3 + 2) + 1 + 1 + 1 by omega]
    simp only [flat3, List.set_cons_succ]
    rw [this]
theorem getD_set_fn {α : Type} (t : List α) (k i : Nat) (p d : α) (hk : k < t.length) : (t.set k p).getD i d = if i = k then p else t.getD i d := by
  simp only [List.getD_eq_getElem?_getD, List.getElem?_set]
  by_cases h : k = i
  · subst h; simp [hk]
  · rw [if_neg h, if_neg (fun e => h e.symm)]
theorem own_put {w8 w9 : World} {base N k bx g6 cap6 bo : Nat} {L : List Fn} {t : List (Int × Int × Value)} {x y : Int} {l' : List (Int × Int)} {cv v9 : Value} (hL : L.length = N) (ht1 : t.length = N) (ht2 : w8.ownsRow base 42 3 (.slice (some ⟨g6, 0, none⟩) N cap6) N (flat3 t))
    (ht3 : ∀ i, i < N → (t.getD i noT).1 = (L.getD i noFn).1 ∧ (t.getD i noT).2.1 = (L.getD i noFn).2.1 ∧ (L.getD i noFn).2.2.length * 16 ≤ 140737488351232 ∧ w8.ownsRow base 44 2 (t.getD i noT).2.2 (L.getD i noFn).2.2.length (flat2 (L.getD i noFn).2.2))
    (hsep : Sep t) (hk : k < N) (hcv : (t.getD k noT).2.2 = cv) (gr : w8.grownBy w9 cv.ownBlock) (o9 : w9.ownsRow base 44 2 v9 l'.length (flat2 l')) (hl' : l'.length * 16 ≤ 140737488351232)
    (hb : ∀ i, i < N → ∀ b, (t.getD i noT).2.2.ownBlock = some b → b ≠ bx) (hb9 : ∀ b, v9.ownBlock = some b → b ≠ bx) (hg : g6 ≠ bx) :
    OwnFns 44 42 ((((w9.setCell ⟨bx, bo, none⟩ v9).setCell ⟨g6, k * 3, none⟩ (.int .i64 x)).setCell ⟨g6, k * 3 + 1, none⟩ (.int .i64 y)).setCell ⟨g6, k * 3 + 2, none⟩ v9) base (.slice (some ⟨g6, 0, none⟩) N cap6) (L.set k (x, y, l')) := by
  have kk := (ht3 k hk).2.2.2
  rw [hcv] at kk
  have r9 := ht2.kept gr (owns_apart ht2 kk (by decide))
  have fx : Frm (fun b => b = bx) w9 (w9.setCell ⟨bx, bo, none⟩ v9) := Frm.set _ rfl
  have r10 := fx.owns r9 (fun b h => by have e : g6 = b := Option.some.inj h; omega)
  have s1 := (r10.stored (k * 3) (.int .i64 x)).1
  have s2 := (s1.stored (k * 3 + 1) (.int .i64 y)).1
  have s3 := (s2.stored (k * 3 + 2) v9).1
  rw [flat3_set t k x y v9 (by omega)] at s3
  have code : ∀ v n xs, (w9.setCell ⟨bx, bo, none⟩ v9).ownsRow base 44 2 v n xs → ((((w9.setCell ⟨bx, bo, none⟩ v9).setCell ⟨g6, k * 3, none⟩ (.int .i64 x)).setCell ⟨g6, k * 3 + 1, none⟩ (.int .i64 y)).setCell ⟨g6, k * 3 + 2, none⟩ v9).ownsRow base 44 2 v n xs := fun v n xs h => by
    obtain ⟨c1, h1⟩ := own_ty r10
    obtain ⟨c2, h2⟩ := own_ty s1
    obtain ⟨c3, h3⟩ := own_ty s2
    exact owns_set_ty (owns_set_ty (owns_set_ty h ⟨g6, k * 3, none⟩ _ h1 (by decide)) ⟨g6, k * 3 + 1, none⟩ _ h2 (by decide)) ⟨g6, k * 3 + 2, none⟩ _ h3 (by decide)
  have hLs : (L.set k (x, y, l')).length = N := by rw [List.length_set, hL]
  refine ⟨t.set k (x, y, v9), by rw [List.length_set, ht1, hLs], by rw [hLs]; exact s3, fun i hi => ?_⟩
  rw [hLs] at hi
  rw [getD_set_fn t k i _ _ (by omega), getD_set_fn L k i _ _ (by omega)]
  by_cases hik : i = k
  · rw [if_pos hik, if_pos hik]
    exact ⟨rfl, rfl, hl', code _ _ _ (fx.owns o9 (fun b h e => hb9 b h e))⟩
  · rw [if_neg hik, if_neg hik]
    obtain ⟨a1, a2, a3, a4⟩ := ht3 i hi
    refine ⟨a1, a2, a3, code _ _ _ (fx.owns (a4.kept gr ?_) (fun b h e => hb i hi b h e))⟩
    rw [← hcv]
    exact hsep i k (by omega) (by omega) hik
set_option maxRecDepth 100000 in
set_option maxHeartbeats 20000000 in
theorem walk (a0 : Option Addr) (n0 c0 : Nat) (l0 : List Fn) (a1 : Int) (w : World) (w0 : Fns w a0 n0 c0 l0) (w1 : (Lit.int .i64 a1).wf = true) (ld : Ld w) :
    Calls Tryz.prog 5 #[.agg #[.slice a0 n0 c0], .int .i64 a1] w fun e w' => e = .returned (.bool true) ∧ Below w.heap.size w w' := by
  have LD0 := hid ld
  clear ld
  have L0 := hid w0.len
  have hr0 := w0.room
  have hc0 := w0.cap
  have W0 := hid w0
  have wa := w1
  clear w0 w1
  go_enter Tryz.func5, Tryz.ntmps5
  go_wp2_with fail
  refine (awake5_any _ (LD0.out.up (by go_grown))).mono ?_
  rintro e u0 ⟨rfl, bb⟩
  have B0 : Hid (Below w.heap.size w u0) := hid (kt (by go_grown) bb)
  have p0 := kept_cell bb (b := w.heap.size) (o := 0) (v := .slice a0 n0 c0) (by simp [go_sem])
  clear bb
  by_cases hn1 : n0 < 1
  · go_wp2_with fail
    go_ret
    exact ⟨rfl, B0.out⟩
  by_cases hn8 : 8 ≤ n0
  · go_wp2_with fail
    go_ret
    exact ⟨rfl, B0.out⟩
  go_wp2_with fail
  refine (copyProgram2_any _ _ _ l0 _ (W0.out.kept B0.out)).mono ?_
  rintro e u1 ⟨vx, rfl, ox, b1⟩
  obtain ⟨ax, nx, cx, rfl, fx⟩ := ox.one.reads (by rw [← L0.out]; exact hr0)
  have hnx : nx = n0 := by rw [fx.len, ← L0.out]
  subst hnx
  have p1 := kept_cell b1 p0
  have B1 := hid (kt B0.out b1)
  have hb1 := b1.size
  obtain ⟨i0, hi, hz0, hz1, hz2⟩ := info_parts Tryz.infoFunc
  obtain ⟨t, ht1, ht2, ht3, hsep⟩ := ox
  rw [← L0.out] at ht1 ht2 ht3
  obtain ⟨gx, capx, ex, hgx1, hgx2⟩ := ht2.form (by omega)
  cases ex
  obtain ⟨W5, hW5⟩ : ∃ W5 : World, W5 = ((u1.alloc (.cells #[.slice (some ⟨gx, 0, none⟩) nx cx] 24)).alloc (.cells #[.int .i64 0, .int .i64 1, .int .i64 16, .int .i64 0] 44)).alloc (.cells #[.int .i64 0, .int .i64 0, .slice (some ⟨u1.heap.size + 1, 0, none⟩) 2 2] 42) := ⟨_, rfl⟩
  have hB5 : Below u1.heap.size u1 W5 := by rw [hW5]; exact Below.alloc (Below.alloc (Below.alloc (Below.refl _ _) (Nat.le_refl _) _) (by simp) _) (by simp; omega) _
  have s5 : W5.heap.size = u1.heap.size + 1 + 1 + 1 := by rw [hW5]; simp
  have qh : W5.heap[u1.heap.size]? = some (.cells #[.slice (some ⟨gx, 0, none⟩) nx cx] 24 (0, 0)) := by
    have hb : Below (u1.alloc (.cells #[.slice (some ⟨gx, 0, none⟩) nx cx] 24)).heap.size (u1.alloc (.cells #[.slice (some ⟨gx, 0, none⟩) nx cx] 24)) W5 := by rw [hW5]; exact Below.alloc (Below.alloc (Below.refl _ _) (Nat.le_refl _) _) (by simp) _
    rw [hb.block _ (by simp)]
    exact heap_alloc_new u1 _
  have hcode5 : W5.ownsRow (u0.heap.size + 3) 44 2 (.slice (some ⟨u1.heap.size + 1, 0, none⟩) 2 2) 2 (flat2 [(0, 1), (16, 0)]) := by
    have := World.ownsRow_lit (e := 44) (size := 2) (base := u0.heap.size + 3) (u1.alloc (.cells #[.slice (some ⟨gx, 0, none⟩) nx cx] 24)) #[.int .i64 0, .int .i64 1, .int .i64 16, .int .i64 0] 2 (by simp; omega) (by decide) rfl
    rw [hW5]
    simp only [World.size_alloc] at this
    exact this.alloc _
  have hown5 := owns_kept ht2 hB5
  have hnews : ∀ j u, [Value.int .i64 0, .int .i64 0, .slice (some ⟨u1.heap.size + 1, 0, none⟩) 2 2][j]? = some u → W5.cell? ((⟨u1.heap.size + 1 + 1, 0, none⟩ : Addr).add j) = some u := by
    rw [hW5]
    exact news_new (by simp) [Value.int .i64 0, .int .i64 0, .slice (some ⟨u1.heap.size + 1, 0, none⟩) 2 2] 42
  have pW := kept_cell hB5 p1
  have pq : W5.cell? ⟨u1.heap.size, 0, none⟩ = some (.slice (some ⟨gx, 0, none⟩) nx cx) := by rw [cell_of_row W5 u1.heap.size 0 _ _ _ qh]; rfl
  have pqf : W5.frozen? ⟨u1.heap.size, 0, none⟩ = false := frozen_of_row W5 u1.heap.size 0 _ _ qh
  have h3 := fun i (hi : i < nx) => (⟨(ht3 i hi).1, (ht3 i hi).2.1, (ht3 i hi).2.2.1, owns_kept (ht3 i hi).2.2.2 hB5⟩ : (t.getD i noT).1 = (l0.getD i noFn).1 ∧ (t.getD i noT).2.1 = (l0.getD i noFn).2.1 ∧ (l0.getD i noFn).2.2.length * 16 ≤ 140737488351232 ∧ World.ownsRow _ (u0.heap.size + 3) 44 2 (t.getD i noT).2.2 (l0.getD i noFn).2.2.length (flat2 (l0.getD i noFn).2.2))
  have SP : Hid (Sep (t ++ [((0 : Int), (0 : Int), Value.slice (some ⟨u1.heap.size + 1, 0, none⟩) 2 2)])) := hid (hsep.snoc (H := u1.heap.size) (fun i hi b hb' => ((ht3 i (by omega)).2.2.2.lt b hb').2) (fun b hb' => by have e : u1.heap.size + 1 = b := Option.some.inj hb'; omega))
  have H3 := hid h3
  have HC5 := hid hcode5
  have HO5 := hid hown5
  have HT1 := hid ht1
  have HB5 := hid hB5
  have HQ5 := hid (And.intro qh (And.intro pq pqf))
  have hgl := lt_of_cell p1
  have HPW := hid pW
  clear h3 hcode5 hown5 ht1 ht2 ht3 hB5 qh pq pqf pW hsep fx b1
  go_wp2_with (at_builtin; go_must ((rw [← hW5]; refine wpList_append_lies _ rfl _ _ 22 rfl (u0.heap.size + 3) 42 i0 (.agg #[.int .i64 0, .int .i64 0, .slice none 0 0]) 3 40 Tryz.underlying22 hi hz0 hz1 hz2 rfl (by decide) (.slice (some ⟨gx, 0, none⟩) nx cx) nx (flat3 t) rfl HO5.out ⟨u1.heap.size + 1 + 1, 0, none⟩ 1 1 [.int .i64 0, .int .i64 0, .slice (some ⟨u1.heap.size + 1, 0, none⟩) 2 2] rfl rfl hnews (by intro u hu; simp at hu; rcases hu with rfl | rfl | rfl <;> rfl) (by decide) (by unfold maxLen; omega) (by omega) (by omega) (u1.heap.size + 1 + 1 + 1) s5 ?_; intro g6 cap6 w6 o6 gr6 at6 lt6; have nq : some u1.heap.size ≠ (Value.slice (some ⟨gx, 0, none⟩) nx cx).ownBlock := (by intro e; have e' : u1.heap.size = gx := Option.some.inj e; omega); have np : some w.heap.size ≠ (Value.slice (some ⟨gx, 0, none⟩) nx cx).ownBlock := (by intro e; have e' : w.heap.size = gx := Option.some.inj e; have := B0.out.size; omega); have q6 := gr6.cell HQ5.out.2.1 nq; have qf6 := (gr6.frozen_far ⟨u1.heap.size, 0, none⟩ (lt_of_cell HQ5.out.2.1) nq).trans HQ5.out.2.2; have qp6 := gr6.cell HPW.out np; have P6 := hid (And.intro o6 (And.intro gr6 (And.intro at6 (gr6.block u1.heap.size (by rw [s5]; omega) nq)))); clear o6 gr6 at6 lt6 nq np)))
  obtain ⟨W7, hW7⟩ : ∃ W7 : World, W7 = w6.setCell ⟨u1.heap.size, 0, none⟩ (.slice (some ⟨g6, 0, none⟩) (nx + 1) cap6) := ⟨_, rfl⟩
  rw [← hW7]
  have OQ : Hid (OwnFns2 44 42 W7 (u0.heap.size + 3) (.slice (some ⟨g6, 0, none⟩) (nx + 1) cap6) (l0 ++ [oneFn])) := hid (by
    obtain ⟨p1, p2, p3, p4⟩ := P6.out
    have h := OwnFns2.snoc (e := 44) (f := 42) (code := [(0, 1), (16, 0)]) (by decide) L0.out.symm HT1.out HO5.out H3.out HC5.out (by simp) p1 p2 SP.out
    rw [hW7]
    exact h.set_ty _ _ (p4.trans HQ5.out.1) (by decide) (by decide))
  have BW : Hid (Below w.heap.size w W7) := hid (by
    obtain ⟨p1, p2, p3, p4⟩ := P6.out
    have f6 : Frm (fun k => k = gx) W5 w6 := Frm.of_grown p2 (fun k hk => (Option.some.inj hk).symm)
    rw [hW7]
    exact (kt B1.out HB5.out).trans ((f6.below (by have := (kt B1.out HB5.out).size; omega) (fun k hk => by have := B0.out.size; omega)).trans ((Frm.set (S := fun k => k = u1.heap.size) (p := ⟨u1.heap.size, 0, none⟩) _ rfl).below (by have := (kt B1.out HB5.out).size; have := f6.size; omega) (fun k hk => by have := B1.out.size; omega))))
  have cp : W7.cell? ⟨w.heap.size, 0, none⟩ = some (.slice a0 nx c0) := by rw [hW7]; exact cell_set_far qp6 (by simp; omega)
  have cq : W7.cell? ⟨u1.heap.size, 0, none⟩ = some (.slice (some ⟨g6, 0, none⟩) (nx + 1) cap6) := by rw [hW7]; exact World.cell?_setCell_same _ _ _ q6
  have cqf : Hid (W7.frozen? ⟨u1.heap.size, 0, none⟩ = false) := hid (by rw [hW7]; simp [qf6])
  have CP := hid (And.intro cp cq)
  have QT : Hid (∃ c fr, W7.heap[u1.heap.size]? = some (.cells c 24 fr)) := hid (by
    obtain ⟨p1, p2, p3, p4⟩ := P6.out
    have h6 := p4.trans HQ5.out.1
    rw [hW7]
    simp only [World.setCell, Array.getElem?_modify, if_true, h6, Option.map_some]
    exact ⟨_, _, rfl⟩)
  clear hW7 hW5 hnews s5 q6 qf6 qp6 P6 SP H3 HC5 HO5 HT1 HB5 HQ5 HPW B1 p1
  go_loopw [6] (fun s wr => ∃ i : Nat, i ≤ nx ∧ s = .int .i64 i ∧ Below W7.heap.size W7 wr) (fun s _ => nx - (intOf s).toNat)
  case atStart => exact ⟨0, Nat.zero_le _, rfl, Below.refl _ _⟩
  case round =>
    clear cp cq
    obtain ⟨i, hi', rfl, hb⟩ := hrel
    have cp := kept_cell hb CP.out.1
    have cq := kept_cell hb CP.out.2
    obtain ⟨aq, nq, cq', eq, fq⟩ := (OQ.out.one.kept hb).reads (by rw [List.length_append, ← L0.out]; simp; omega)
    cases eq
    have FQ := hid fq
    clear fq
    by_cases hlt : i < nx
    · go_wp2_with fail
      refine (verHeights _ _ _ l0 i _ (W0.out.kept (kt BW.out hb)) (LD0.out.up (kt BW.out hb))).mono ?_
      rintro e v1 ⟨vh, rfl, oh, b1⟩
      have cp1 := kept_cell b1 cp
      have cq1 := kept_cell b1 cq
      have C1 := hid (kt hb b1)
      have FQ1 := hid (FQ.out.kept b1)
      obtain ⟨ah, nh, ch, rfl, ih⟩ := ints_of_owns oh (by have := hts_len (ps := l0) (fn := i); omega)
      have IH := hid ih
      clear oh b1 ih cp cq FQ
      go_wp2_with fail
      refine (verHeights _ _ _ (l0 ++ [oneFn]) i _ FQ1.out (LD0.out.up (kt BW.out C1.out))).mono ?_
      rintro e v2 ⟨vg, rfl, og, b2⟩
      have C2 := hid (kt C1.out b2)
      obtain ⟨ag, ng, cg, rfl, ig⟩ := ints_of_owns og (by have := hts_len (ps := l0 ++ [oneFn]) (fn := i); omega)
      have IG := hid ig
      have IH2 := hid (IH.out.kept b2)
      have HM := hid (fun h => hts_more (ps := l0) (by rw [← L0.out]; omega) (by rw [← L0.out]; omega) (i := i) (by rw [← L0.out]; exact hlt) h)
      clear og b2 ig IH cp1 cq1
      by_cases h5 : (htsV l0 (i : Int)).2.2 = 501
      · generalize htsV (l0 ++ [oneFn]) (i : Int) = F at *
        generalize htsV l0 (i : Int) = E at *
        obtain ⟨E1, E2, E3⟩ := E
        simp only [] at h5
        subst h5
        clear HM
        go_wp2_with (first | (go_at_call 10; refine (num_any _ _).mono ?_; rintro e w' ⟨rfl, hw⟩; rw [hw]; clear hw))
        go_roundw
        case rel => exact ⟨i + 1, by omega, by go_num, C2.out⟩
        case measure => simp [intOf]; omega
      · rw [HM.out h5] at IG ⊢
        generalize htsV l0 (i : Int) = E at *
        obtain ⟨E1, E2, E3⟩ := E
        simp only [] at h5 ⊢
        clear HM
        by_cases h0 : E3 = 0
        · subst h0
          go_wp2_with (first | (go_at_call 10; refine (num_any _ _).mono ?_; rintro e w' ⟨rfl, hw⟩; rw [hw]; clear hw))
          refine (sameInts_any _ _ _ _ _ _ E1 E1 _ IH2.out IG.out).mono ?_
          rintro e v3 ⟨rfl, b3⟩
          rw [decide_eq_true rfl]
          have C3 := hid (kt C2.out b3)
          clear b3
          go_wp2_with (first | (go_at_call 10; refine (num_any _ _).mono ?_; rintro e w' ⟨rfl, hw⟩; rw [hw]; clear hw))
          go_roundw
          case rel => exact ⟨i + 1, by omega, by go_num, C3.out⟩
          case measure => simp [intOf]; omega
        · have n0 : (E3 == 0) = false := by simp [h0]
          have n1 : (E3 != 0) = true := by simp [h0]
          have n2 : (E3 != 501) = true := by simp [h5]
          have n3 : (E3 != E3) = false := by simp
          have n4 : (E2 != E2) = false := by simp
          go_wp2_with (first | (go_at_call 10; refine (num_any _ _).mono ?_; rintro e w' ⟨rfl, hw⟩; rw [hw]; clear hw))
          go_roundw
          case rel => exact ⟨i + 1, by omega, by go_num, C2.out⟩
          case measure => simp [intOf]; omega
    · have hm := umod_bd a1 nx (by omega)
      generalize hkv : (IntKind.u64.wrap a1).tmod (nx : Int) = kv at hm
      obtain ⟨hm1, hm2⟩ := hm
      obtain ⟨k, rfl⟩ := Int.eq_ofNat_of_zero_le hm1
      have hk : k < nx := by omega
      clear hm1 hm2
      obtain ⟨t', ht1, ht2, ht3, hsep⟩ := OQ.out.kept hb
      have hL1 : (l0 ++ [oneFn]).length = nx + 1 := by rw [List.length_append, ← L0.out]; rfl
      rw [hL1] at ht1 ht2 ht3
      have hgk : (l0 ++ [oneFn]).getD k noFn = l0.getD k noFn := getD_snoc_lt _ _ _ _ (by rw [← L0.out]; exact hk)
      obtain ⟨k1, k2, k3, k4⟩ := ht3 k (by omega)
      obtain ⟨e1, e2, e3⟩ := flat3_at t' k (by omega) noT
      rw [hgk] at k1 k2 k3 k4
      generalize hfk : l0.getD k noFn = fk at k1 k2 k3 k4
      obtain ⟨x, y, l⟩ := fk
      simp only [] at k1 k2 k3 k4
      have d0 := ht2.cellAt (k * 3) (by omega)
      have d1 := ht2.cellAt (k * 3 + 1) (by omega)
      have d2 := ht2.cellAt (k * 3 + 2) (by omega)
      rw [e1, k1] at d0
      rw [e2, k2] at d1
      rw [e3] at d2
      obtain ⟨ca, cn, cc, ecv, ic⟩ := inss_of_owns k4 k3
      rw [ecv] at d2
      have hcl : Hid (cn = l.length) := hid ic.len
      have hcc := ic.cap
      have hcr := ic.room
      have HFK := hid hfk
      have KK := hid (And.intro k1 (And.intro k2 (And.intro k3 (And.intro k4 ecv))))
      have TT := hid (And.intro ht1 (And.intro ht2 (And.intro ht3 hsep)))
      have IC := hid ic
      have hg6 : g6 < W7.heap.size := ((OQ.out.one).elim (fun t h => (h.2.1.lt g6 rfl).2))
      have hbs := hb.size
      clear ht1 ht2 ht3 hsep k1 k2 k3 k4 e1 e2 e3 ecv ic hfk hgk
      by_cases hz : cn = 0
      · subst hz
        go_wp2_with fail
        go_ret
        exact ⟨rfl, kt (kt BW.out hb) (by go_grown)⟩
      obtain ⟨m, rfl⟩ : ∃ m, cn = m + 1 := ⟨cn - 1, by omega⟩
      by_cases hbig : 64 ≤ m + 1
      · go_wp2_with fail
        go_ret
        exact ⟨rfl, kt (kt BW.out hb) (by go_grown)⟩
      obtain ⟨b2, o2, K, A, eca, eK, cK, cA⟩ := IC.out.at m (by omega)
      cases eca
      have HEK := hid eK
      have hcb := lt_of_cell cK
      have zb := World.new_ne _ _ cK
      clear eK
      by_cases hK : K = 16 ∨ K = 12
      rotate_left
      · have n1 : (K != 16) = true := by simp; omega
        have n2 : (K != 12) = true := by simp; omega
        go_wp2_with fail
        go_ret
        exact ⟨rfl, kt (kt BW.out hb) (by go_grown)⟩
      obtain ⟨j0, hj, hy0, hy1, hy2⟩ := info_parts Tryz.infoIns
      rcases hK with rfl | rfl
      · have IL := hid (World.ownsRow_lit (e := 44) (size := 2) (base := 0) (wr.alloc (.cells #[.int .i64 x, .int .i64 y, .slice (some ⟨b2, o2, none⟩) (m + 1) cc] 42)) #[.int .i64 16, .int .i64 0] 1 (Nat.zero_le _) (by decide) rfl)
        obtain ⟨W8, hW8⟩ : ∃ W8 : World, W8 = (wr.alloc (.cells #[.int .i64 x, .int .i64 y, .slice (some ⟨b2, o2, none⟩) (m + 1) cc] 42)).alloc (.cells #[.int .i64 16, .int .i64 0] 44) := ⟨_, rfl⟩
        have hB8 : Below wr.heap.size wr W8 := by rw [hW8]; exact Below.alloc (Below.alloc (Below.refl _ _) (Nat.le_refl _) _) (by simp) _
        have s8 : W8.heap.size = wr.heap.size + 1 + 1 := by rw [hW8]; simp
        have R8 : Hid (W8.ownsRow (u0.heap.size + 3) 44 2 (.slice (some ⟨b2, o2, none⟩) (m + 1) cc) l.length (flat2 l)) := hid (by rw [← KK.out.2.2.2.2]; exact owns_kept KK.out.2.2.2.1 hB8)
        have hnews : ∀ j u, [Value.int .i64 16, .int .i64 0][j]? = some u → W8.cell? ((⟨wr.heap.size + 1, 0, none⟩ : Addr).add j) = some u := by
          rw [hW8]
          exact news_new (by simp) [Value.int .i64 16, .int .i64 0] 44
        have HB8 := hid hB8
        have F8 : Hid (W8.cell? ⟨wr.heap.size, 0, none⟩ = some (.int .i64 x) ∧ W8.cell? ⟨wr.heap.size, 1, none⟩ = some (.int .i64 y) ∧ W8.cell? ⟨wr.heap.size, 2, none⟩ = some (.slice (some ⟨b2, o2, none⟩) (m + 1) cc) ∧ ∀ j, W8.frozen? ⟨wr.heap.size, j, none⟩ = false) := hid (by
          rw [hW8]; exact ⟨by simp [go_sem], by simp [go_sem], by simp [go_sem], fun j => by simp [go_sem]⟩)
        have hgw : g6 ≠ wr.heap.size := by omega
        have hqw : u1.heap.size ≠ wr.heap.size := by have := lt_of_cell CP.out.2; omega
        have hpw : w.heap.size ≠ wr.heap.size := by have := lt_of_cell CP.out.1; omega
        have hqg : u1.heap.size ≠ g6 := by
          intro e
          obtain ⟨c, fr, h2⟩ := QT.out
          rcases OQ.out with ⟨t9, _, h9, _⟩
          obtain ⟨cur, hg⟩ := own_ty h9
          rw [e, hg] at h2
          simp at h2
        have hpg : w.heap.size ≠ g6 := by
          rcases OQ.out with ⟨t9, _, h9, _⟩
          have := (h9.lt g6 rfl).1
          have := B0.out.size
          omega
        have D8 := hid (And.intro (kept_cell hB8 d0) (And.intro (kept_cell hB8 d1) (And.intro (kept_cell hB8 d2) (And.intro (kept_cell hB8 cp) (kept_cell hB8 cq)))))
        have hb2 : Hid (b2 < wr.heap.size ∧ u0.heap.size + 3 ≤ b2) := hid (by
          have h := KK.out.2.2.2.1; rw [KK.out.2.2.2.2] at h; have := h.lt b2 rfl; omega)
        have hw8 : u0.heap.size + 3 ≤ W8.heap.size := by have := hb2.out; omega
        have ROW : Hid (∃ cur, wr.heap[b2]? = some (.cells cur 44 (0, 0))) := hid (by
          have h := KK.out.2.2.2.1
          rw [KK.out.2.2.2.2] at h
          exact own_ty h)
        have nq : u1.heap.size ≠ b2 := by
          obtain ⟨cur, h1⟩ := ROW.out
          obtain ⟨c, fr, h2⟩ := QT.out
          intro e
          have hlt : u1.heap.size < W7.heap.size := lt_of_cell CP.out.2
          rw [← hb.block _ hlt, e, h1] at h2
          simp at h2
        have ng : g6 ≠ b2 := by
          have h := KK.out.2.2.2.1
          rw [KK.out.2.2.2.2] at h
          rcases owns_apart h TT.out.2.1 (by decide) with e | e
          · cases e
          · intro e'; exact e (by rw [e']; rfl)
        have nf : wr.heap.size ≠ b2 := by have := hb2.out; omega
        have np : w.heap.size ≠ b2 := by have := hb2.out; have := B0.out.size; omega
        have Z8 : Hid (∀ j, W8.frozen? ⟨g6, j, none⟩ = false) := hid (fun j => by rw [HB8.out.frozen (p := ⟨g6, j, none⟩) (by show g6 < wr.heap.size; omega)]; exact TT.out.2.1.frozenAt j)
        have sb : ∀ b : Nat, b ≠ b2 → some b ≠ (Value.slice (some ⟨b2, o2, none⟩) (m + 1) cc).ownBlock := fun b h e => h (Option.some.inj e)
        have SB := hid sb
        clear sb
        clear hB8
        go_wp2_with (at_builtin; go_must ((rw [← hW8]; refine wpList_append_lies _ rfl _ _ 40 rfl (u0.heap.size + 3) 44 j0 (.agg #[.int .i64 0, .int .i64 0]) 2 16 Tryz.underlying40 hj hy0 hy1 hy2 rfl (by decide) (.slice (some ⟨b2, o2, none⟩) (m + 1) cc) l.length (flat2 l) rfl R8.out ⟨wr.heap.size + 1, 0, none⟩ 1 1 [.int .i64 16, .int .i64 0] rfl rfl hnews (by intro u hu; simp at hu; rcases hu with rfl | rfl <;> rfl) (by decide) (by unfold maxLen; have := hcl.out; omega) (by have := hcl.out; omega) hw8 (wr.heap.size + 1 + 1) s8 ?_; intro g9 cap9 w9 o9 gr9 at9 lt9; have f0 := gr9.cell F8.out.1 (SB.out _ nf); have f1 := gr9.cell F8.out.2.1 (SB.out _ nf); have f2 := gr9.cell F8.out.2.2.1 (SB.out _ nf); have ff := (gr9.frozen_far ⟨wr.heap.size, 2, none⟩ (lt_of_cell F8.out.2.2.1) (SB.out _ nf)).trans (F8.out.2.2.2 2); have y0 := gr9.cell D8.out.1 (SB.out _ ng); have y1 := gr9.cell D8.out.2.1 (SB.out _ ng); have y2 := gr9.cell D8.out.2.2.1 (SB.out _ ng); have z0 := (gr9.frozen_far ⟨g6, k * 3, none⟩ (lt_of_cell D8.out.1) (SB.out _ ng)).trans (Z8.out _); have z1 := (gr9.frozen_far ⟨g6, k * 3 + 1, none⟩ (lt_of_cell D8.out.2.1) (SB.out _ ng)).trans (Z8.out _); have z2 := (gr9.frozen_far ⟨g6, k * 3 + 2, none⟩ (lt_of_cell D8.out.2.2.1) (SB.out _ ng)).trans (Z8.out _); have p9 := gr9.cell D8.out.2.2.2.1 (SB.out _ np); have q9 := gr9.cell D8.out.2.2.2.2 (SB.out _ nq); have P9 := hid (And.intro o9 (And.intro gr9 at9)); clear o9 gr9 at9 lt9)))
        have B10 : Hid (Below w.heap.size w ((((w9.setCell ⟨wr.heap.size, 2, none⟩ (.slice (some ⟨g9, 0, none⟩) (l.length + 1) cap9)).setCell ⟨g6, k * 3, none⟩ (.int .i64 x)).setCell ⟨g6, k * 3 + 1, none⟩ (.int .i64 y)).setCell ⟨g6, k * 3 + 2, none⟩ (.slice (some ⟨g9, 0, none⟩) (l.length + 1) cap9))) := hid (by
          have h8 := kt (kt BW.out hb) HB8.out
          have f9 : Frm (fun b => b = b2) W8 w9 := Frm.of_grown P9.out.2.1 (fun b hb' => (Option.some.inj hb').symm)
          have h9 := h8.trans (f9.below h8.size (fun b hb' => by have := hb2.out; have := B0.out.size; omega))
          have hg6w : w.heap.size ≤ g6 := by
            rcases OQ.out with ⟨t9, _, h9', _⟩
            have := (h9'.lt g6 rfl).1
            have := B0.out.size
            omega
          have hww : w.heap.size ≤ wr.heap.size := (kt BW.out hb).size
          exact Below.setCell (Below.setCell (Below.setCell (Below.setCell h9 hww _) hg6w _) hg6w _) hg6w _)
        have O10 : Hid (OwnFns 44 42 ((((w9.setCell ⟨wr.heap.size, 2, none⟩ (.slice (some ⟨g9, 0, none⟩) (l.length + 1) cap9)).setCell ⟨g6, k * 3, none⟩ (.int .i64 x)).setCell ⟨g6, k * 3 + 1, none⟩ (.int .i64 y)).setCell ⟨g6, k * 3 + 2, none⟩ (.slice (some ⟨g9, 0, none⟩) (l.length + 1) cap9)) (u0.heap.size + 3) (.slice (some ⟨g6, 0, none⟩) (nx + 1) cap6) ((l0 ++ [oneFn]).set k (x, y, l ++ [(16, 0)]))) := hid (by
          obtain ⟨t1, t2, t3, t4⟩ := TT.out
          obtain ⟨o9, gr9, at9⟩ := P9.out
          refine own_put (w8 := W8) (bx := wr.heap.size) hL1 t1 (owns_kept t2 HB8.out) (fun i hi => ⟨(t3 i hi).1, (t3 i hi).2.1, (t3 i hi).2.2.1, owns_kept (t3 i hi).2.2.2 HB8.out⟩) t4 (by omega) KK.out.2.2.2.2 gr9 ?_ ?_ (fun i hi b hb' => by have := ((t3 i hi).2.2.2.lt b hb').2; omega) (fun b hb' => ?_) hgw
          · rw [flat2_app, List.length_append]; exact o9
          · rw [List.length_append, List.length_singleton]; have := hcl.out; omega
          · have e : g9 = b := Option.some.inj hb'
            rcases at9 with h | h
            · have e2 : b2 = g9 := Option.some.inj h; omega
            · omega)
        have q10 : Hid (((((w9.setCell ⟨wr.heap.size, 2, none⟩ (.slice (some ⟨g9, 0, none⟩) (l.length + 1) cap9)).setCell ⟨g6, k * 3, none⟩ (.int .i64 x)).setCell ⟨g6, k * 3 + 1, none⟩ (.int .i64 y)).setCell ⟨g6, k * 3 + 2, none⟩ (.slice (some ⟨g9, 0, none⟩) (l.length + 1) cap9)).cell? ⟨u1.heap.size, 0, none⟩ = some (.slice (some ⟨g6, 0, none⟩) (nx + 1) cap6)) := hid (cell_set_far (cell_set_far (cell_set_far (cell_set_far q9 hqw) hqg) hqg) hqg)
        have HI := hid (fun h0 => hts_ins (ps := l0) (by rw [← L0.out]; omega) (by rw [← L0.out]; omega) (k := k) (by rw [← L0.out]; exact hk) HFK.out (by have := hcl.out; omega) h0)
        clear f0 f1 f2 ff y0 y1 y2 z0 z1 z2 p9 q9 P9
        refine (refHeights_any _ _ _ l0 k _ (W0.out.kept B10.out)).mono ?_
        rintro e v1 ⟨vh, rfl, oh, b1⟩
        have q11 := kept_cell b1 q10.out
        have B11 := hid (kt B10.out b1)
        obtain ⟨aq, nq', cq', eq, fq⟩ := (O10.out.kept b1).reads (by rw [List.length_set, hL1]; omega)
        simp only [Value.slice.injEq] at eq
        obtain ⟨rfl, rfl, rfl⟩ := eq
        have FQ := hid fq
        have OH := hid oh
        clear b1 oh fq O10 B10 q10
        go_wp2_with fail
        refine (verHeights _ _ _ _ k _ FQ.out (LD0.out.up B11.out)).mono ?_
        rintro e v2 ⟨vg, rfl, og, b2'⟩
        by_cases h0 : (htsV l0 (k : Int)).2.2 = 0
        rotate_left
        · generalize (htsV l0 (k : Int)).2.2 = z at h0
          have nz : (z != 0) = true := by simp [h0]
          go_wp2_with (first | (go_at_call 10; refine (num_any _ _).mono ?_; rintro e w' ⟨rfl, hw⟩; rw [hw]; clear hw))
          go_ret
          exact ⟨rfl, kt B11.out b2'⟩
        obtain ⟨e7, e8⟩ := HI.out h0
        rw [e7] at og ⊢
        rw [h0]
        have hh := OH.out
        generalize hhs : (htsV l0 (k : Int)).1 = hs at hh og e8
        have hlen : (hs ++ [(-1 : Int)]).length = m + 2 := by rw [List.length_append, List.length_singleton]; have := hcl.out; omega
        have hlh : hs.length = m + 1 := by have := hcl.out; omega
        have og' : v2.ownsRow v1.heap.size 3 1 vg (m + 2) (ints (hs ++ [-1])) := by rw [← hlen]; exact og
        obtain ⟨gg, cg, rfl, hgg, hggl⟩ := og'.form (by omega)
        have hcg := cap_of og'
        have cL := og'.cellAt (m + 1) (by omega)
        rw [ints_at _ _ (by omega), show (hs ++ [(-1 : Int)]).getD (m + 1) 0 = -1 from getD_snoc_eq _ _ _ _ (by omega)] at cL
        have IG : Hid (Ints v2 (some ⟨gg, 0, none⟩) (m + 1) cg hs) := hid ⟨by omega, by omega, by omega, fun e => (by cases e), fun _ => ⟨gg, 0, rfl, fun i hi => by
          rw [Nat.zero_add, og'.cellAt i (by omega), ints_at _ _ (by omega), getD_snoc_lt _ _ _ _ (by omega)]⟩⟩
        obtain ⟨ah, nh, ch, rfl, ih⟩ := ints_of_owns hh (by omega)
        have IH := hid (ih.kept b2')
        have B12 := hid (kt B11.out b2')
        have hm64 : m + 2 ≤ 64 := by omega
        clear og og' hh ih b2' e7 e8 hhs hlen OH HI h0 FQ q11
        go_wp2_with (first | (go_at_call 10; refine (num_any _ _).mono ?_; rintro e w' ⟨rfl, hw⟩; rw [hw]; clear hw))
        refine (sameInts_any _ _ _ _ _ _ hs hs _ IG.out IH.out).mono ?_
        rintro e v3 ⟨rfl, b3⟩
        rw [decide_eq_true rfl]
        have cL3 := kept_cell b3 cL
        have B13 := hid (kt B12.out b3)
        clear b3 cL
        go_wp2_with fail
        go_ret
        exact ⟨rfl, B13.out⟩
      · have IL := hid (World.ownsRow_lit (e := 44) (size := 2) (base := 0) (wr.alloc (.cells #[.int .i64 x, .int .i64 y, .slice (some ⟨b2, o2, none⟩) (m + 1) cc] 42)) #[.int .i64 16, .int .i64 0] 1 (Nat.zero_le _) (by decide) rfl)
        obtain ⟨W8, hW8⟩ : ∃ W8 : World, W8 = (wr.alloc (.cells #[.int .i64 x, .int .i64 y, .slice (some ⟨b2, o2, none⟩) (m + 1) cc] 42)).alloc (.cells #[.int .i64 16, .int .i64 0] 44) := ⟨_, rfl⟩
        have hB8 : Below wr.heap.size wr W8 := by rw [hW8]; exact Below.alloc (Below.alloc (Below.refl _ _) (Nat.le_refl _) _) (by simp) _
        have s8 : W8.heap.size = wr.heap.size + 1 + 1 := by rw [hW8]; simp
        have R8 : Hid (W8.ownsRow (u0.heap.size + 3) 44 2 (.slice (some ⟨b2, o2, none⟩) (m + 1) cc) l.length (flat2 l)) := hid (by rw [← KK.out.2.2.2.2]; exact owns_kept KK.out.2.2.2.1 hB8)
        have hnews : ∀ j u, [Value.int .i64 16, .int .i64 0][j]? = some u → W8.cell? ((⟨wr.heap.size + 1, 0, none⟩ : Addr).add j) = some u := by
          rw [hW8]
          exact news_new (by simp) [Value.int .i64 16, .int .i64 0] 44
        have HB8 := hid hB8
        have F8 : Hid (W8.cell? ⟨wr.heap.size, 0, none⟩ = some (.int .i64 x) ∧ W8.cell? ⟨wr.heap.size, 1, none⟩ = some (.int .i64 y) ∧ W8.cell? ⟨wr.heap.size, 2, none⟩ = some (.slice (some ⟨b2, o2, none⟩) (m + 1) cc) ∧ ∀ j, W8.frozen? ⟨wr.heap.size, j, none⟩ = false) := hid (by
          rw [hW8]; exact ⟨by simp [go_sem], by simp [go_sem], by simp [go_sem], fun j => by simp [go_sem]⟩)
        have hgw : g6 ≠ wr.heap.size := by omega
        have hqw : u1.heap.size ≠ wr.heap.size := by have := lt_of_cell CP.out.2; omega
        have hpw : w.heap.size ≠ wr.heap.size := by have := lt_of_cell CP.out.1; omega
        have hqg : u1.heap.size ≠ g6 := by
          intro e
          obtain ⟨c, fr, h2⟩ := QT.out
          rcases OQ.out with ⟨t9, _, h9, _⟩
          obtain ⟨cur, hg⟩ := own_ty h9
          rw [e, hg] at h2
          simp at h2
        have hpg : w.heap.size ≠ g6 := by
          rcases OQ.out with ⟨t9, _, h9, _⟩
          have := (h9.lt g6 rfl).1
          have := B0.out.size
          omega
        have D8 := hid (And.intro (kept_cell hB8 d0) (And.intro (kept_cell hB8 d1) (And.intro (kept_cell hB8 d2) (And.intro (kept_cell hB8 cp) (kept_cell hB8 cq)))))
        have hb2 : Hid (b2 < wr.heap.size ∧ u0.heap.size + 3 ≤ b2) := hid (by
          have h := KK.out.2.2.2.1; rw [KK.out.2.2.2.2] at h; have := h.lt b2 rfl; omega)
        have hw8 : u0.heap.size + 3 ≤ W8.heap.size := by have := hb2.out; omega
        have ROW : Hid (∃ cur, wr.heap[b2]? = some (.cells cur 44 (0, 0))) := hid (by
          have h := KK.out.2.2.2.1
          rw [KK.out.2.2.2.2] at h
          exact own_ty h)
        have nq : u1.heap.size ≠ b2 := by
          obtain ⟨cur, h1⟩ := ROW.out
          obtain ⟨c, fr, h2⟩ := QT.out
          intro e
          have hlt : u1.heap.size < W7.heap.size := lt_of_cell CP.out.2
          rw [← hb.block _ hlt, e, h1] at h2
          simp at h2
        have ng : g6 ≠ b2 := by
          have h := KK.out.2.2.2.1
          rw [KK.out.2.2.2.2] at h
          rcases owns_apart h TT.out.2.1 (by decide) with e | e
          · cases e
          · intro e'; exact e (by rw [e']; rfl)
        have nf : wr.heap.size ≠ b2 := by have := hb2.out; omega
        have np : w.heap.size ≠ b2 := by have := hb2.out; have := B0.out.size; omega
        have Z8 : Hid (∀ j, W8.frozen? ⟨g6, j, none⟩ = false) := hid (fun j => by rw [HB8.out.frozen (p := ⟨g6, j, none⟩) (by show g6 < wr.heap.size; omega)]; exact TT.out.2.1.frozenAt j)
        have sb : ∀ b : Nat, b ≠ b2 → some b ≠ (Value.slice (some ⟨b2, o2, none⟩) (m + 1) cc).ownBlock := fun b h e => h (Option.some.inj e)
        have SB := hid sb
        clear sb
        clear hB8
        go_wp2_with (at_builtin; go_must ((rw [← hW8]; refine wpList_append_lies _ rfl _ _ 40 rfl (u0.heap.size + 3) 44 j0 (.agg #[.int .i64 0, .int .i64 0]) 2 16 Tryz.underlying40 hj hy0 hy1 hy2 rfl (by decide) (.slice (some ⟨b2, o2, none⟩) (m + 1) cc) l.length (flat2 l) rfl R8.out ⟨wr.heap.size + 1, 0, none⟩ 1 1 [.int .i64 16, .int .i64 0] rfl rfl hnews (by intro u hu; simp at hu; rcases hu with rfl | rfl <;> rfl) (by decide) (by unfold maxLen; have := hcl.out; omega) (by have := hcl.out; omega) hw8 (wr.heap.size + 1 + 1) s8 ?_; intro g9 cap9 w9 o9 gr9 at9 lt9; have f0 := gr9.cell F8.out.1 (SB.out _ nf); have f1 := gr9.cell F8.out.2.1 (SB.out _ nf); have f2 := gr9.cell F8.out.2.2.1 (SB.out _ nf); have ff := (gr9.frozen_far ⟨wr.heap.size, 2, none⟩ (lt_of_cell F8.out.2.2.1) (SB.out _ nf)).trans (F8.out.2.2.2 2); have y0 := gr9.cell D8.out.1 (SB.out _ ng); have y1 := gr9.cell D8.out.2.1 (SB.out _ ng); have y2 := gr9.cell D8.out.2.2.1 (SB.out _ ng); have z0 := (gr9.frozen_far ⟨g6, k * 3, none⟩ (lt_of_cell D8.out.1) (SB.out _ ng)).trans (Z8.out _); have z1 := (gr9.frozen_far ⟨g6, k * 3 + 1, none⟩ (lt_of_cell D8.out.2.1) (SB.out _ ng)).trans (Z8.out _); have z2 := (gr9.frozen_far ⟨g6, k * 3 + 2, none⟩ (lt_of_cell D8.out.2.2.1) (SB.out _ ng)).trans (Z8.out _); have p9 := gr9.cell D8.out.2.2.2.1 (SB.out _ np); have q9 := gr9.cell D8.out.2.2.2.2 (SB.out _ nq); have P9 := hid (And.intro o9 (And.intro gr9 at9)); clear o9 gr9 at9 lt9)))
        have B10 : Hid (Below w.heap.size w ((((w9.setCell ⟨wr.heap.size, 2, none⟩ (.slice (some ⟨g9, 0, none⟩) (l.length + 1) cap9)).setCell ⟨g6, k * 3, none⟩ (.int .i64 x)).setCell ⟨g6, k * 3 + 1, none⟩ (.int .i64 y)).setCell ⟨g6, k * 3 + 2, none⟩ (.slice (some ⟨g9, 0, none⟩) (l.length + 1) cap9))) := hid (by
          have h8 := kt (kt BW.out hb) HB8.out
          have f9 : Frm (fun b => b = b2) W8 w9 := Frm.of_grown P9.out.2.1 (fun b hb' => (Option.some.inj hb').symm)
          have h9 := h8.trans (f9.below h8.size (fun b hb' => by have := hb2.out; have := B0.out.size; omega))
          have hg6w : w.heap.size ≤ g6 := by
            rcases OQ.out with ⟨t9, _, h9', _⟩
            have := (h9'.lt g6 rfl).1
            have := B0.out.size
            omega
          have hww : w.heap.size ≤ wr.heap.size := (kt BW.out hb).size
          exact Below.setCell (Below.setCell (Below.setCell (Below.setCell h9 hww _) hg6w _) hg6w _) hg6w _)
        have O10 : Hid (OwnFns 44 42 ((((w9.setCell ⟨wr.heap.size, 2, none⟩ (.slice (some ⟨g9, 0, none⟩) (l.length + 1) cap9)).setCell ⟨g6, k * 3, none⟩ (.int .i64 x)).setCell ⟨g6, k * 3 + 1, none⟩ (.int .i64 y)).setCell ⟨g6, k * 3 + 2, none⟩ (.slice (some ⟨g9, 0, none⟩) (l.length + 1) cap9)) (u0.heap.size + 3) (.slice (some ⟨g6, 0, none⟩) (nx + 1) cap6) ((l0 ++ [oneFn]).set k (x, y, l ++ [(16, 0)]))) := hid (by
          obtain ⟨t1, t2, t3, t4⟩ := TT.out
          obtain ⟨o9, gr9, at9⟩ := P9.out
          refine own_put (w8 := W8) (bx := wr.heap.size) hL1 t1 (owns_kept t2 HB8.out) (fun i hi => ⟨(t3 i hi).1, (t3 i hi).2.1, (t3 i hi).2.2.1, owns_kept (t3 i hi).2.2.2 HB8.out⟩) t4 (by omega) KK.out.2.2.2.2 gr9 ?_ ?_ (fun i hi b hb' => by have := ((t3 i hi).2.2.2.lt b hb').2; omega) (fun b hb' => ?_) hgw
          · rw [flat2_app, List.length_append]; exact o9
          · rw [List.length_append, List.length_singleton]; have := hcl.out; omega
          · have e : g9 = b := Option.some.inj hb'
            rcases at9 with h | h
            · have e2 : b2 = g9 := Option.some.inj h; omega
            · omega)
        have q10 : Hid (((((w9.setCell ⟨wr.heap.size, 2, none⟩ (.slice (some ⟨g9, 0, none⟩) (l.length + 1) cap9)).setCell ⟨g6, k * 3, none⟩ (.int .i64 x)).setCell ⟨g6, k * 3 + 1, none⟩ (.int .i64 y)).setCell ⟨g6, k * 3 + 2, none⟩ (.slice (some ⟨g9, 0, none⟩) (l.length + 1) cap9)).cell? ⟨u1.heap.size, 0, none⟩ = some (.slice (some ⟨g6, 0, none⟩) (nx + 1) cap6)) := hid (cell_set_far (cell_set_far (cell_set_far (cell_set_far q9 hqw) hqg) hqg) hqg)
        have HI := hid (fun h0 => hts_ins (ps := l0) (by rw [← L0.out]; omega) (by rw [← L0.out]; omega) (k := k) (by rw [← L0.out]; exact hk) HFK.out (by have := hcl.out; omega) h0)
        clear f0 f1 f2 ff y0 y1 y2 z0 z1 z2 p9 q9 P9
        refine (refHeights_any _ _ _ l0 k _ (W0.out.kept B10.out)).mono ?_
        rintro e v1 ⟨vh, rfl, oh, b1⟩
        have q11 := kept_cell b1 q10.out
        have B11 := hid (kt B10.out b1)
        obtain ⟨aq, nq', cq', eq, fq⟩ := (O10.out.kept b1).reads (by rw [List.length_set, hL1]; omega)
        simp only [Value.slice.injEq] at eq
        obtain ⟨rfl, rfl, rfl⟩ := eq
        have FQ := hid fq
        have OH := hid oh
        clear b1 oh fq O10 B10 q10
        go_wp2_with fail
        refine (verHeights _ _ _ _ k _ FQ.out (LD0.out.up B11.out)).mono ?_
        rintro e v2 ⟨vg, rfl, og, b2'⟩
        by_cases h0 : (htsV l0 (k : Int)).2.2 = 0
        rotate_left
        · generalize (htsV l0 (k : Int)).2.2 = z at h0
          have nz : (z != 0) = true := by simp [h0]
          go_wp2_with (first | (go_at_call 10; refine (num_any _ _).mono ?_; rintro e w' ⟨rfl, hw⟩; rw [hw]; clear hw))
          go_ret
          exact ⟨rfl, kt B11.out b2'⟩
        obtain ⟨e7, e8⟩ := HI.out h0
        rw [e7] at og ⊢
        rw [h0]
        have hh := OH.out
        generalize hhs : (htsV l0 (k : Int)).1 = hs at hh og e8
        have hlen : (hs ++ [(-1 : Int)]).length = m + 2 := by rw [List.length_append, List.length_singleton]; have := hcl.out; omega
        have hlh : hs.length = m + 1 := by have := hcl.out; omega
        have og' : v2.ownsRow v1.heap.size 3 1 vg (m + 2) (ints (hs ++ [-1])) := by rw [← hlen]; exact og
        obtain ⟨gg, cg, rfl, hgg, hggl⟩ := og'.form (by omega)
        have hcg := cap_of og'
        have cL := og'.cellAt (m + 1) (by omega)
        rw [ints_at _ _ (by omega), show (hs ++ [(-1 : Int)]).getD (m + 1) 0 = -1 from getD_snoc_eq _ _ _ _ (by omega)] at cL
        have IG : Hid (Ints v2 (some ⟨gg, 0, none⟩) (m + 1) cg hs) := hid ⟨by omega, by omega, by omega, fun e => (by cases e), fun _ => ⟨gg, 0, rfl, fun i hi => by
          rw [Nat.zero_add, og'.cellAt i (by omega), ints_at _ _ (by omega), getD_snoc_lt _ _ _ _ (by omega)]⟩⟩
        obtain ⟨ah, nh, ch, rfl, ih⟩ := ints_of_owns hh (by omega)
        have IH := hid (ih.kept b2')
        have B12 := hid (kt B11.out b2')
        have hm64 : m + 2 ≤ 64 := by omega
        clear og og' hh ih b2' e7 e8 hhs hlen OH HI h0 FQ q11
        go_wp2_with (first | (go_at_call 10; refine (num_any _ _).mono ?_; rintro e w' ⟨rfl, hw⟩; rw [hw]; clear hw))
        refine (sameInts_any _ _ _ _ _ _ hs hs _ IG.out IH.out).mono ?_
        rintro e v3 ⟨rfl, b3⟩
        rw [decide_eq_true rfl]
        have cL3 := kept_cell b3 cL
        have B13 := hid (kt B12.out b3)
        clear b3 cL
        go_wp2_with fail
        go_ret
        exact ⟨rfl, B13.out⟩

set_option maxRecDepth 100000 in
theorem lifted (os : Os) (started : os.Started) (H : Type) (enc : TypeId × Value → H) :
    ReturnsInHanded {} Tryz.checked os 5 .any (fun w args => (Rows.verifyMoreSpec.pre enc Tryz.prog Tryz.f5 [] false w args ∧ laidMetH Tryz.prog [("math/bits.deBruijn32tab", Rows.laid_math_bits_deBruijn32tab), ("math/bits.deBruijn64tab", Rows.laid_math_bits_deBruijn64tab), ("internal/strconv.uint64pow10", Rows.laid_internal_strconv_uint64pow10), ("errors.errorType", Rows.laid_errors_errorType), ("swage/pack.errForm", Rows.laid_swage_pack_errForm), ("swage/pack.errEnd", Rows.laid_swage_pack_errEnd)] w) ∧ sizedMet enc Tryz.prog Tryz.f5 (OpenSpec.ofChange Rows.verifyMoreSpec) false w args) (Rows.verifyMoreSpec.post enc Tryz.prog Tryz.f5 false true false false) := by
  refine returnsInHanded_of_change_and (C := Tryz.checked) (X := fun w _ => laidMetH Tryz.prog [("math/bits.deBruijn32tab", Rows.laid_math_bits_deBruijn32tab), ("math/bits.deBruijn64tab", Rows.laid_math_bits_deBruijn64tab), ("internal/strconv.uint64pow10", Rows.laid_internal_strconv_uint64pow10), ("errors.errorType", Rows.laid_errors_errorType), ("swage/pack.errForm", Rows.laid_swage_pack_errForm), ("swage/pack.errEnd", Rows.laid_swage_pack_errEnd)] w) (fun _ _ _ hh h => h.of_heap hh) own started (by kernel_rfl) Tryz.func5
    (ChangeSpec.witness_shaped (enc := enc) (C := Tryz.checked) (os := os) (X := fun w _ => laidMetH Tryz.prog [("math/bits.deBruijn32tab", Rows.laid_math_bits_deBruijn32tab), ("math/bits.deBruijn64tab", Rows.laid_math_bits_deBruijn64tab), ("internal/strconv.uint64pow10", Rows.laid_internal_strconv_uint64pow10), ("errors.errorType", Rows.laid_errors_errorType), ("swage/pack.errForm", Rows.laid_swage_pack_errForm), ("swage/pack.errEnd", Rows.laid_swage_pack_errEnd)] w) false (World.doorLaid Tryz.prog 400 os) #[.agg #[.slice none 0 0], .int .i64 0] 8 rfl (World.shaped_of_RefB (by kernel_rfl) (by kernel_rfl)) (by kernel_rfl) (by kernel_rfl) (by kernel_rfl) (door_met os _)) ?_
  intro W base args ds gs before hval0 hW hcnd hsz0 hL _
  have hval : ∀ (j : Nat) t v, Tryz.f5.params[j]? = some t → args[j]? = some v → Value.okWide Tryz.prog W .any base t v := hval0
  have hW' := hW
  obtain ⟨p, q, hA0, hV, rfl, hfz, hnd⟩ := hW
  have hA : DataW.TrodAll enc Tryz.prog W 0 (fun _ => true) true Tryz.f5.params.toList args.toList ds p := hA0
  have hsz : (DataW.weightsEach Tryz.prog (Tryz.f5.params.toList ++ Rows.verifyMoreSpec.plain.varTypes Tryz.prog) (ds ++ gs)).all (· ≤ reachBytes) = true := hsz0
  rw [Tryz.params5] at hA hval hsz
  obtain ⟨v0, vs0, d0, ds0, p0, q0, hargs, rfl, rfl, h0, r0⟩ := trodAll_cons hA
  obtain ⟨v1, vs1, d1, ds1, p1, q1, rfl, rfl, rfl, h1, r1⟩ := trodAll_cons r0
  obtain ⟨rfl, rfl, rfl⟩ := trodAll_nil r1
  obtain rfl : args = #[v0, v1] := by cases args; simp_all
  obtain ⟨rfl, rfl⟩ := trodVars_none hV
  have k0 := h0
  have lt0 : ∀ x ∈ p0, x.block < W.heap.size := by obtain ⟨m, hm⟩ := k0; exact DataW.trod_lt m _ _ _ hm
  have k1 := h1
  have lt1 : ∀ x ∈ p1, x.block < W.heap.size := by obtain ⟨m, hm⟩ := k1; exact DataW.trod_lt m _ _ _ hm
  obtain ⟨a0, n0, c0, l0, rfl, w0⟩ := open_program (hval 0 24 v0 rfl rfl) h0 (fun k hk => by simpa using List.all_eq_true.1 hsz k (DataW.weights_mem_each (j := 0) rfl rfl k hk))
  obtain ⟨a1, rfl, rfl, rfl, w1⟩ := open_int Tryz.underlying3 (hval 1 3 v1 rfl rfl) h1
  clear hA0 hval0
  refine (walk a0 n0 c0 l0 a1 W w0 w1 (ld_of hL)).mono fun e W' ⟨he, bel⟩ => ?_
  subst he
  exact ⟨_, rfl, _, _, _, [], _, [], hW', trodAll_mk1 (shut_bool Tryz.underlying4 _), (trodAll_cons_mk (Below.trod laidOut (by kernel_rfl) (of_decide_eq_true (by kernel_rfl)) k0 bel lt0) (trodAll_cons_mk (Below.trod laidOut (by kernel_rfl) (of_decide_eq_true (by kernel_rfl)) k1 bel lt1) trodAll_mk0)), rfl, bel.frame _, fun h => by cases h⟩

theorem over : Rows.verifyMoreRow.holds Tryz.pinned (OpenSpec.ofChange Rows.verifyMoreSpec) :=
  OpenClaim.holds_of_wide 5 Tryz.f5 rfl rfl rfl rfl rfl rfl rfl ⟨rfl, rfl, rfl, rfl, rfl⟩ rfl rfl rfl rfl rfl (by kernel_rfl) Tryz.func5 (by kernel_rfl)
    (of_decide_eq_true (by kernel_rfl)) (by unfold Func.isWrapper; first | (rw [if_pos (by decide +kernel)]; kernel_rfl) | (rw [if_neg (by decide +kernel)]; exact ⟨rfl, rfl⟩))
    (fun os started H enc _ => lifted os started H enc)
end Go.Proofs.YtnmhoahkmampkaaGreatDoor.verifyMore
namespace Go.Proofs.YtnmhoahkmampkaaGreatDoor
open Go
theorem verifyMore_holds : Rows.VerifyMoreCardSaid :=
  Claim7.holds_tied_plain_at .later [] [.data, .data, .data, .handle, .sentinel, .sentinel] true (true, "10089f75fa0ab85cfc1497fa887a67bd97855363fd0769559cb79d63b501dd70") true
    verifyMore.over (fun _ h => by cases h) (by kernel_rfl) (fun _ h => by cases h) verifyMore_row_tie rfl ⟨rfl, rfl⟩ (by kernel_rfl) rfl
    (fun f fn hf hfn => by
      obtain rfl : f = 5 := Option.some.inj ((show Tryz.prog.funcNamed "swage/swagelaw5.VerifyMore" = some 5 by kernel_rfl).symm.trans hf) |>.symm
      obtain rfl : fn = Tryz.f5 := (Option.some.inj (Tryz.func5.symm.trans hfn)).symm
      exact ⟨by kernel_rfl, fun j t ht => by
        rw [Tryz.params5] at ht
        have hm : t ∈ [24, 3] := by simpa using Array.mem_of_getElem? ht
        have hall : ([24, 3].all fun u => !Tryz.prog.wantsStandIn u) = true := by kernel_rfl
        exact (show Tryz.prog.wantsStandIn t = false by simpa using List.all_eq_true.1 hall t hm)⟩)
    (by kernel_rfl)
#print axioms verifyMore_holds
end Go.Proofs.YtnmhoahkmampkaaGreatDoor
