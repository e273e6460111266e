/- Package verify's two checks of places: the least reached pc of which something is so. -/
import Derived.Test.YtaimpljkbpnigaaGreatDoorLdVer
import Derived.Test.YtaimpljkbpnigaaGreatDoorJ5p
import Derived.Test.YtaimpljkbpnigaaGreatDoorJ4
namespace Go.Proofs.YtaimpljkbpnigaaGreatDoor
open Go.RowKit
set_option linter.unusedVariables false

/-- The error that tells a place, if there is one. -/
def errV (o : Option Nat) (num : Int) : Value := match o with
  | none => .nilIface
  | some i => flt i num

set_option maxHeartbeats 2000000 in
theorem least_any (a : Option Addr) (n c : Nat) (bs : List Bool) (num : Int) (F : FuncId) (cap : Array Value) (hent : ∀ args w, (callFunc F args).run Tryz.prog w = .ok (.enter F args) w) (w : World) (hB : Bools w a n c bs) (q : Nat → Bool)
    (hstep : ∀ k w', k < n → Below w.heap.size w w' → Calls Tryz.prog F (#[.int .i64 k] ++ cap) w' fun e u => e = .returned (.bool (q k)) ∧ Below w'.heap.size w' u) :
    Calls Tryz.prog 105 #[.slice a n c, .int .i64 num, .func (.func F) #[] cap] w fun e u => e = .returned (errV (firstAt (fun k => bs.getD k false && q k) n 0) num) ∧ Below w.heap.size w u := by
  have L := hid hB.len
  have hcp := hB.cap
  have hr := hB.room
  have HB := hid hB
  generalize hV : firstAt (fun k => bs.getD k false && q k) n 0 = V
  have HV := hid hV
  clear hB hV
  go_enter Tryz.func105, Tryz.ntmps105
  go_wp2_with fail
  go_loopw [11] (fun s wr => ∃ k : Nat, k ≤ n ∧ s = .int .i64 k ∧ firstAt (fun k => bs.getD k false && q k) (n - k) k = V ∧ Below w.heap.size w wr) (fun s _ => n - (intOf s).toNat)
  case atStart => exact ⟨0, Nat.zero_le _, rfl, HV.out, Below.refl _ _⟩
  case round =>
    obtain ⟨k, hk, rfl, hfa, hb⟩ := hrel
    have HF := hid hfa
    clear hfa
    by_cases hlt : k < n
    · obtain ⟨b, o, ha, hrow⟩ := (HB.out.kept hb).row (by omega)
      have c1 := hrow k hlt
      have ST := hid (hstep k wr hlt hb)
      subst ha
      clear hrow
      cases hbk : bs.getD k false
      · rw [hbk] at c1
        have HN : Hid (firstAt (fun k => bs.getD k false && q k) (n - (k + 1)) (k + 1) = V) := hid (by rw [← HF.out, show n - k = (n - (k + 1)) + 1 by omega, firstAt_step (by show (bs.getD k false && q k) = false; rw [hbk]; rfl)])
        clear hbk
        go_wp2_with fail
        go_roundw
        case rel => exact ⟨k + 1, by omega, by go_num, HN.out, hb⟩
        case measure => simp [intOf]; omega
      · rw [hbk] at c1
        cases hqk : q k
        · have HN : Hid (firstAt (fun k => bs.getD k false && q k) (n - (k + 1)) (k + 1) = V) := hid (by rw [← HF.out, show n - k = (n - (k + 1)) + 1 by omega, firstAt_step (by show (bs.getD k false && q k) = false; rw [hqk, Bool.and_false])])
          rw [hqk] at ST
          clear hbk hqk
          go_wp2_with fail
          refine ST.out.mono ?_
          rintro e u ⟨rfl, hbu⟩
          go_wp2_with fail
          go_roundw
          case rel => exact ⟨k + 1, by omega, by go_num, HN.out, kt hb hbu⟩
          case measure => simp [intOf]; omega
        · have HN : Hid (V = some k) := hid (by rw [← HF.out, show n - k = (n - (k + 1)) + 1 by omega]; exact firstAt_hit (by rw [hbk, hqk]; rfl))
          rw [hqk] at ST
          clear hbk hqk
          go_wp2_with fail
          refine ST.out.mono ?_
          rintro e u ⟨rfl, hbu⟩
          go_wp2_with fail
          go_ret
          exact ⟨by rw [HN.out]; rfl, kt hb hbu⟩
    · have hkn : k = n := by omega
      subst hkn
      have e0 := HF.out
      rw [show k - k = 0 by omega] at e0
      have HN : Hid (V = none) := hid e0.symm
      clear e0
      go_wp2_with fail
      go_ret
      exact ⟨by rw [HN.out]; rfl, hb⟩

set_option maxHeartbeats 1000000 in
theorem rangeC_any (x y : Int) (a : Option Addr) (n c : Nat) (l : List (Int × Int)) (pa : Option Addr) (pn pc : Nat) (bf bp : Nat) (k : Nat) (w : World) (h : Inss w a n c l) (hk : k < n)
    (f0 : w.cell? ⟨bf, 1, none⟩ = some (.int .i64 y)) (f2 : w.cell? ⟨bf, 2, none⟩ = some (.slice a n c)) (p0 : w.cell? ⟨bp, 0, none⟩ = some (.slice pa pn pc)) (hpn : pn * 40 ≤ 140737488351232) :
    Calls Tryz.prog 106 #[.int .i64 k, .pointer (some ⟨bf, 0, none⟩), .pointer (some ⟨bp, 0, none⟩)] w fun e u => e = .returned (.bool (!rangedB pn y n (insAt l k).1 (insAt l k).2)) ∧ Below w.heap.size w u := by
  obtain ⟨b, o, K, A, rfl, e1, c1, c2⟩ := h.at k hk
  have hr := h.room
  have hc := h.cap
  rw [show insAt l k = (K, A) from e1]
  clear h e1
  have hA : Below w.heap.size w (w.alloc (.cells #[.int .i64 K, .int .i64 A] 47)) := Below.alloc (Below.refl _ _) (Nat.le_refl _) _
  have g0 := kept_cell hA f0
  have g2 := kept_cell hA f2
  have g3 := kept_cell hA p0
  have HA := hid hA
  clear hA
  by_cases h1 : K = 1
  · subst h1
    go_enter Tryz.func106, Tryz.ntmps106
    go_wp2
    go_ret
    exact ⟨ret_bool (by rw [Bool.eq_iff_iff]; simp [rangedB]), HA.out⟩
  by_cases h2 : K = 2
  · subst h2
    go_enter Tryz.func106, Tryz.ntmps106
    go_wp2
    go_ret
    exact ⟨ret_bool (by rw [Bool.eq_iff_iff]; simp [rangedB]), HA.out⟩
  by_cases h3 : K = 12
  · subst h3
    go_enter Tryz.func106, Tryz.ntmps106
    go_wp2
    go_ret
    exact ⟨ret_bool (by rw [Bool.eq_iff_iff]; simp [rangedB]), HA.out⟩
  by_cases h4 : K = 13
  · subst h4
    go_enter Tryz.func106, Tryz.ntmps106
    go_wp2
    go_ret
    exact ⟨ret_bool (by rw [Bool.eq_iff_iff]; simp [rangedB]), HA.out⟩
  by_cases h5 : K = 14
  · subst h5
    go_enter Tryz.func106, Tryz.ntmps106
    go_wp2
    go_ret
    exact ⟨ret_bool (by rw [Bool.eq_iff_iff]; simp [rangedB]), HA.out⟩
  have n1 : (K == 1) = false := by simp [h1]
  have n2 : (K == 2) = false := by simp [h2]
  have n3 : (K == 12) = false := by simp [h3]
  have n4 : (K == 13) = false := by simp [h4]
  have n5 : (K == 14) = false := by simp [h5]
  go_enter Tryz.func106, Tryz.ntmps106
  go_wp2
  go_ret
  exact ⟨ret_bool (by unfold rangedB; rw [if_neg (by omega), if_neg (by omega), if_neg h5]; rfl), HA.out⟩

/-- The end of the code is left open at k. -/
def endB (l : List (Int × Int)) (n k : Nat) : Bool := decide (k + 1 = n) && !decide ((insAt l k).1 = 12 ∨ (insAt l k).1 = 16)

set_option maxHeartbeats 1000000 in
theorem endC_any (a : Option Addr) (n c : Nat) (l : List (Int × Int)) (bf : Nat) (k : Nat) (w : World) (h : Inss w a n c l) (hk : k < n)
    (f2 : w.cell? ⟨bf, 2, none⟩ = some (.slice a n c)) :
    Calls Tryz.prog 107 #[.int .i64 k, .pointer (some ⟨bf, 0, none⟩)] w fun e u => e = .returned (.bool (endB l n k)) ∧ Below w.heap.size w u := by
  obtain ⟨b, o, K, A, rfl, e1, c1, c2⟩ := h.at k hk
  have hr := h.room
  have hc := h.cap
  have HE : Hid (endB l n k = (decide (k + 1 = n) && !decide (K = 12 ∨ K = 16))) := hid (by unfold endB; rw [show insAt l k = (K, A) from e1])
  clear h e1
  by_cases hl : k + 1 = n
  · subst hl
    by_cases h1 : K = 12
    · subst h1
      go_enter Tryz.func107, Tryz.ntmps107
      go_wp2
      go_ret
      exact ⟨ret_bool (by rw [HE.out]; simp), by go_grown⟩
    by_cases h2 : K = 16
    · subst h2
      go_enter Tryz.func107, Tryz.ntmps107
      go_wp2
      go_ret
      exact ⟨ret_bool (by rw [HE.out]; simp), by go_grown⟩
    have n1 : (K != 12) = true := by simp [h1]
    have n2 : (K != 16) = true := by simp [h2]
    go_enter Tryz.func107, Tryz.ntmps107
    go_wp2
    go_ret
    exact ⟨ret_bool (by rw [HE.out]; simp [h1, h2]), by go_grown⟩
  · have n0 : ((k : Int) == (n : Int) - 1) = false := by simp; omega
    have n3 : ¬ (k : Int) = (n : Int) - 1 := by omega
    go_enter Tryz.func107, Tryz.ntmps107
    go_wp2
    go_ret
    exact ⟨ret_bool (by rw [HE.out, decide_eq_false hl]; rfl), by go_grown⟩

theorem enterRange (args : Array Value) (w : World) : (callFunc 106 args).run Tryz.prog w = .ok (.enter 106 args) w := by kernel_rfl
theorem enterEnd (args : Array Value) (w : World) : (callFunc 107 args).run Tryz.prog w = .ok (.enter 107 args) w := by kernel_rfl

set_option maxHeartbeats 1000000 in
theorem checkRange_any (pa : Option Addr) (pn pc : Nat) (x y : Int) (a : Option Addr) (n c : Nat) (l : List (Int × Int)) (ra : Option Addr) (rc : Nat) (bs : List Bool) (w : World) (h : Inss w a n c l) (hB : Bools w ra n rc bs) (hpn : pn * 40 ≤ 140737488351232) :
    Calls Tryz.prog 85 #[.agg #[.slice pa pn pc], .agg #[.int .i64 x, .int .i64 y, .slice a n c], .slice ra n rc] w fun e u => e = .returned (errV (firstAt (fun k => bs.getD k false && !rangedB pn y n (insAt l k).1 (insAt l k).2) n 0) 501) ∧ Below w.heap.size w u := by
  have H : Hid (∀ w', Below w.heap.size w w' → ∀ bf bp, w'.cell? ⟨bf, 1, none⟩ = some (.int .i64 y) → w'.cell? ⟨bf, 2, none⟩ = some (.slice a n c) → w'.cell? ⟨bp, 0, none⟩ = some (.slice pa pn pc) →
    Calls Tryz.prog 105 #[.slice ra n rc, .int .i64 501, .func (.func 106) #[] #[.pointer (some ⟨bf, 0, none⟩), .pointer (some ⟨bp, 0, none⟩)]] w' fun e u => e = .returned (errV (firstAt (fun k => bs.getD k false && !rangedB pn y n (insAt l k).1 (insAt l k).2) n 0) 501) ∧ Below w'.heap.size w' u) := hid (fun w' hb bf bp f1 f2 p0 =>
      least_any ra n rc bs 501 106 #[.pointer (some ⟨bf, 0, none⟩), .pointer (some ⟨bp, 0, none⟩)] enterRange w' (hB.kept hb) (fun k => !rangedB pn y n (insAt l k).1 (insAt l k).2) (fun k u hk hbu =>
        rangeC_any x y a n c l pa pn pc bf bp k u ((h.kept hb).kept hbu) hk (kept_cell hbu f1) (kept_cell hbu f2) (kept_cell hbu p0) hpn))
  generalize hV : errV (firstAt (fun k => bs.getD k false && !rangedB pn y n (insAt l k).1 (insAt l k).2) n 0) 501 = V at H ⊢
  clear hV h hB
  have hA : Below w.heap.size w ((w.alloc (.cells #[.slice pa pn pc] 24)).alloc (.cells #[.int .i64 x, .int .i64 y, .slice a n c] 51)) := Below.alloc (Below.alloc (Below.refl _ _) (Nat.le_refl _) _) (by simp) _
  have HC := hid (H.out _ hA (w.heap.size + 1) w.heap.size (by simp [go_sem]) (by simp [go_sem]) (by simp [go_sem]))
  have HA := hid hA
  clear hA H
  go_enter Tryz.func85, Tryz.ntmps85
  go_wp2_with fail
  refine HC.out.mono ?_
  rintro e u ⟨rfl, hb⟩
  go_wp2_with fail
  go_ret
  exact ⟨rfl, kt HA.out hb⟩

set_option maxHeartbeats 1000000 in
theorem checkEnd_any (x y : Int) (a : Option Addr) (n c : Nat) (l : List (Int × Int)) (ra : Option Addr) (rc : Nat) (bs : List Bool) (w : World) (h : Inss w a n c l) (hB : Bools w ra n rc bs) :
    Calls Tryz.prog 86 #[.agg #[.int .i64 x, .int .i64 y, .slice a n c], .slice ra n rc] w fun e u => e = .returned (errV (firstAt (fun k => bs.getD k false && endB l n k) n 0) 503) ∧ Below w.heap.size w u := by
  have H : Hid (∀ w', Below w.heap.size w w' → ∀ bf, w'.cell? ⟨bf, 2, none⟩ = some (.slice a n c) →
    Calls Tryz.prog 105 #[.slice ra n rc, .int .i64 503, .func (.func 107) #[] #[.pointer (some ⟨bf, 0, none⟩)]] w' fun e u => e = .returned (errV (firstAt (fun k => bs.getD k false && endB l n k) n 0) 503) ∧ Below w'.heap.size w' u) := hid (fun w' hb bf f2 =>
      least_any ra n rc bs 503 107 #[.pointer (some ⟨bf, 0, none⟩)] enterEnd w' (hB.kept hb) (fun k => endB l n k) (fun k u hk hbu =>
        endC_any a n c l bf k u ((h.kept hb).kept hbu) hk (kept_cell hbu f2)))
  generalize hV : errV (firstAt (fun k => bs.getD k false && endB l n k) n 0) 503 = V at H ⊢
  clear hV h hB
  have hA : Below w.heap.size w (w.alloc (.cells #[.int .i64 x, .int .i64 y, .slice a n c] 51)) := Below.alloc (Below.refl _ _) (Nat.le_refl _) _
  have HC := hid (H.out _ hA w.heap.size (by simp [go_sem]))
  have HA := hid hA
  clear hA H
  go_enter Tryz.func86, Tryz.ntmps86
  go_wp2_with fail
  refine HC.out.mono ?_
  rintro e u ⟨rfl, hb⟩
  go_wp2_with fail
  go_ret
  exact ⟨rfl, kt HA.out hb⟩

/- plain: what the two firsts say -/
theorem firstAt_congr {p q : Nat → Bool} : ∀ (k i : Nat), (∀ j, i ≤ j → j < i + k → p j = q j) → firstAt p k i = firstAt q k i
  | 0, i, _ => rfl
  | k + 1, i, h => by
    simp only [firstAt]
    rw [h i (Nat.le_refl _) (by omega), firstAt_congr k (i + 1) (fun j h1 h2 => h j (by omega) (by omega))]
theorem firstAt_last {p : Nat → Bool} : ∀ (k i : Nat), (∀ j, i ≤ j → j < i + k → p j = false) → firstAt p (k + 1) i = if p (i + k) = true then some (i + k) else none
  | 0, i, _ => by simp [firstAt]
  | k + 1, i, h => by
    rw [firstAt_step (h i (Nat.le_refl _) (by omega)), firstAt_last k (i + 1) (fun j h1 h2 => h j (by omega) (by omega)), show i + 1 + k = i + (k + 1) by omega]

end Go.Proofs.YtaimpljkbpnigaaGreatDoor
