/- What the helpers of the statements over flow return: SameInts, SameBools, SpoilInts, LendInss, KeptInss. -/
import Derived.Test.YtaimpljkbpnigaaGreatDoorMemInts
import Derived.Test.YtaimpljkbpnigaaGreatDoorJ2s
namespace Go.Proofs.YtaimpljkbpnigaaGreatDoor
open Go.RowKit
set_option linter.unusedVariables false

set_option maxHeartbeats 400000 in
theorem sameInts_any (a b : Option Addr) (n c m d : Nat) (l k : List Int) (w : World) (h1 : Ints w a n c l) (h2 : Ints w b m d k) :
    Calls Tryz.prog 36 #[.slice a n c, .slice b m d] w fun e w' => e = .returned (.bool (decide (l = k))) ∧ Below w.heap.size w w' := by
  have hr := h1.room
  have hc := h1.cap
  have L1 := hid h1.len
  have L2 := hid h2.len
  by_cases hnm : n = m
  · subst hnm
    go_enter Tryz.func36, Tryz.ntmps36
    go_wp2
    go_loopw [5] (fun i wr => ∃ q : Nat, q ≤ n ∧ i = .int .i64 q ∧ l.take q = k.take q ∧ Below w.heap.size w wr) (fun i _ => n - (intOf i).toNat)
    case atStart => exact ⟨0, Nat.zero_le _, rfl, rfl, Below.refl _ _⟩
    case round =>
      obtain ⟨q, hq, rfl, ht, hb⟩ := hrel
      have HT := hid ht
      clear ht
      by_cases hlt : q < n
      · obtain ⟨b1, o1, rfl, r1⟩ := h1.row (by omega)
        obtain ⟨b2, o2, rfl, r2⟩ := h2.row (by omega)
        have c1 := kept_cell hb (r1 q hlt)
        have c2 := kept_cell hb (r2 q hlt)
        generalize hx : l.getD q 0 = x at c1
        generalize hy : k.getD q 0 = y at c2
        have HX := hid hx
        have HY := hid hy
        clear hx hy r1 r2
        by_cases f1 : x = y
        · subst f1
          go_wp2
          go_quiet (fail)
          go_wp2
          go_roundw
          case rel => exact ⟨q + 1, by omega, by go_num, take_eq_step (by have := L1.out; omega) (by have := L2.out; omega) HT.out (HX.out.trans HY.out.symm), below_drewN hb _⟩
          case measure => simp [intOf]; omega
        · have f1' : (x == y) = false := by simp [f1]
          have F := hid f1
          clear f1
          go_wp2
          go_quiet (fail)
          go_wp2
          go_ret
          exact ⟨ret_bool (decide_eq_false (ne_at (q := q) (d := 0) (by rw [HX.out, HY.out]; exact F.out))).symm, below_drewN hb _⟩
      · go_wp2
        go_ret
        exact ⟨ret_bool (decide_eq_true (by have h := HT.out; rwa [List.take_of_length_le (by have := L1.out; omega), List.take_of_length_le (by have := L2.out; omega)] at h)).symm, hb⟩
  · have hne : ((n : Int) == (m : Int)) = false := by simp; omega
    go_enter Tryz.func36, Tryz.ntmps36
    go_wp2
    go_ret
    exact ⟨ret_bool (decide_eq_false (fun h => hnm (by rw [L1.out, L2.out, h]))).symm, by go_grown⟩

theorem news_of {w : World} {H : Nat} (hH : w.heap.size = H) (cs : Array Value) (t : TypeId) : ∀ j u, cs.toList[j]? = some u → (w.alloc (.cells cs t)).cell? ((⟨H, 0, none⟩ : Addr).add j) = some u := by
  subst hH
  exact World.news_of_block (cs := cs) (heap_alloc_new w _)
theorem cap_of {w : World} {base e size g n cap : Nat} {xs : List Value} (h : w.ownsRow base e size (.slice (some ⟨g, 0, none⟩) n cap) n xs) : n ≤ cap := by
  rcases h.2 with ⟨e, _⟩ | ⟨_, _, _, e, _, _, r, _⟩
  · cases e
  · cases e; exact r
theorem ints_set (xs : List Int) (i : Nat) (x : Int) : (ints xs).set i (.int .i64 x) = ints (xs.set i x) := by simp [ints, List.map_set]

set_option maxHeartbeats 400000 in
theorem spoilInts_any (base : Nat) (a : Option Addr) (n c : Nat) (xs : List Int) (w : World) (h : w.ownsRow base 3 1 (.slice a n c) xs.length (ints xs)) (hn : xs.length * 8 ≤ 140737488351232) :
    Calls Tryz.prog 30 #[.slice a n c] w fun e w' => e = .returned (.tuple #[]) ∧ Frm (fun k => (Value.slice a n c).ownBlock = some k) w w' := by
  obtain ⟨_, _, _, e0, HI⟩ := ints_of_owns h hn
  cases e0
  have hlen := hid HI.len
  have hr := HI.room
  have hc := HI.cap
  go_enter Tryz.func30, Tryz.ntmps30
  go_wp2
  go_loopw [2] (fun i wr => ∃ q : Nat, q ≤ n ∧ i = .int .i64 q ∧ ∃ ys : List Int, ys.length = n ∧ wr.ownsRow base 3 1 (.slice a n c) n (ints ys) ∧ Frm (fun k => (Value.slice a n c).ownBlock = some k) w wr) (fun i _ => n - (intOf i).toNat)
  case atStart => exact ⟨0, Nat.zero_le _, rfl, xs, hlen.out.symm, by have := hlen.out; rw [this]; rw [this] at h; exact h, Frm.refl _ _⟩
  case round =>
    obtain ⟨q, hq, rfl, ys, hy, ho, fr⟩ := hrel
    by_cases hlt : q < n
    · obtain ⟨g, cap, e, _, _⟩ := ho.form (by omega)
      cases e
      have c1 := ho.cellAt q (by omega)
      rw [ints_at ys q (by omega)] at c1
      generalize hx : ys.getD q 0 = x at c1
      clear hx
      have f1 := ho.frozenAt q
      have HO := hid ho
      clear ho h HI
      go_wp2
      go_roundw
      case rel =>
        refine ⟨q + 1, by omega, by go_num, ys.set q (wrap64 (-9 - x)), by simpa using hy, ?_, fr.trans (Frm.set (S := fun k => (Value.slice (some ⟨g, 0, none⟩) n c).ownBlock = some k) _ rfl) (fun _ _ h => h)⟩
        have := (HO.out.stored q (.int .i64 (wrap64 (-9 - x)))).1
        rw [ints_set] at this
        exact this
      case measure => simp [intOf]; omega
    · go_wp2
      go_end0
      exact ⟨rfl, fr⟩

/-- Instructions with two marked ones behind them, which the slice's length leaves out. -/
structure Lent (w : World) (base g n cap : Nat) (l : List (Int × Int)) : Prop where
  len : n = l.length
  cap2 : n + 2 ≤ cap
  small : n * 16 ≤ 140737488351232
  row : w.ownsRow base 47 2 (.slice (some ⟨g, 0, none⟩) (n + 2) cap) (n + 2) (flat2 l ++ [.int .i64 0, .int .i64 77777, .int .i64 0, .int .i64 77777])
theorem Lent.inss {w : World} {base g n cap : Nat} {l : List (Int × Int)} (h : Lent w base g n cap l) : Inss w (some ⟨g, 0, none⟩) n cap l := by
  refine ⟨h.len, by have := h.cap2; omega, h.small, fun e => (by cases e), fun hn => ⟨g, 0, rfl, fun i hi => ?_⟩⟩
  have hl := h.len
  have f := flat2_len l
  constructor
  · rw [Nat.zero_add, h.row.cellAt _ (by omega), List.getElem?_append_left (by omega), flat2_even l i hi]
  · rw [Nat.zero_add, h.row.cellAt _ (by omega), List.getElem?_append_left (by omega), flat2_odd l i hi]
theorem Lent.mark {w : World} {base g n cap : Nat} {l : List (Int × Int)} (h : Lent w base g n cap l) (j : Nat) (hj : j < 4) : w.cell? ⟨g, n * 2 + j, none⟩ = some (.int .i64 (if j % 2 = 0 then 0 else 77777)) := by
  have hl := h.len
  have f := flat2_len l
  rw [h.row.cellAt _ (by omega), List.getElem?_append_right (by omega), show n * 2 + j - (flat2 l).length = j by omega]
  have : j = 0 ∨ j = 1 ∨ j = 2 ∨ j = 3 := by omega
  rcases this with rfl | rfl | rfl | rfl <;> rfl
theorem Lent.frm {S : Nat → Prop} {w w' : World} {base g n cap : Nat} {l : List (Int × Int)} (h : Lent w base g n cap l) (hf : Frm S w w') (hg : ¬ S g) : Lent w' base g n cap l := ⟨h.len, h.cap2, h.small, hf.owns h.row (fun k hk => by cases hk; exact hg)⟩
theorem Lent.kept {w w' : World} {base g n cap : Nat} {l : List (Int × Int)} (h : Lent w base g n cap l) (hb : Below w.heap.size w w') : Lent w' base g n cap l := h.frm (Frm.of_below (S := fun _ => False) hb) (fun h => h)
theorem Lent.lt {w : World} {base g n cap : Nat} {l : List (Int × Int)} (h : Lent w base g n cap l) : base ≤ g ∧ g < w.heap.size := h.row.lt g rfl

end Go.Proofs.YtaimpljkbpnigaaGreatDoor
