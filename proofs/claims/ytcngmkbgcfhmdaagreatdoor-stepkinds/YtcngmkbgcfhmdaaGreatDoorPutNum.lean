/- What sizeOfA and appendNumber of package pack return: how many bytes an A takes; its lowest bytes behind what was there. -/
import Derived.Test.YtcngmkbgcfhmdaaGreatDoorCheck
import Derived.Test.YtcngmkbgcfhmdaaGreatDoorRefPut
namespace Go.Proofs.YtcngmkbgcfhmdaaGreatDoor
open Go.RowKit
set_option linter.unusedVariables false

def szA (k : Int) : Nat := if k = 0 then 4 else if smallB k = true then 1 else 0
theorem szA_le (k : Int) : szA k ≤ 4 := by unfold szA; split; omega; split <;> omega
theorem ret_i {x y : Int} (h : x = y) : Ending.returned (.int .i64 x) = .returned (.int .i64 y) := by rw [h]

set_option maxHeartbeats 1000000 in
theorem sizeOfA_any (k : Int) (w : World) :
    Calls Tryz.prog 114 #[.int .i64 k] w fun e w' => e = .returned (.int .i64 (szA k)) ∧ w' = w := by
  by_cases h0 : k = 0
  · subst h0
    go_enter Tryz.func114, Tryz.ntmps114
    go_wp2
    go_ret
    exact ⟨rfl, rfl⟩
  by_cases h1 : k = 1
  · subst h1
    go_enter Tryz.func114, Tryz.ntmps114
    go_wp2
    go_ret
    exact ⟨rfl, rfl⟩
  by_cases h2 : k = 2
  · subst h2
    go_enter Tryz.func114, Tryz.ntmps114
    go_wp2
    go_ret
    exact ⟨rfl, rfl⟩
  by_cases h3 : k = 12
  · subst h3
    go_enter Tryz.func114, Tryz.ntmps114
    go_wp2
    go_ret
    exact ⟨rfl, rfl⟩
  by_cases h4 : k = 13
  · subst h4
    go_enter Tryz.func114, Tryz.ntmps114
    go_wp2
    go_ret
    exact ⟨rfl, rfl⟩
  by_cases h5 : k = 14
  · subst h5
    go_enter Tryz.func114, Tryz.ntmps114
    go_wp2
    go_ret
    exact ⟨rfl, rfl⟩
  have e0 : (k == 0) = false := by simp [h0]
  have e1 : (k == 1) = false := by simp [h1]
  have e2 : (k == 2) = false := by simp [h2]
  have e3 : (k == 12) = false := by simp [h3]
  have e4 : (k == 13) = false := by simp [h4]
  have e5 : (k == 14) = false := by simp [h5]
  have F : Hid ((0 : Int) = szA k) := by
    show (0 : Int) = szA k
    simp [szA, smallB, h0, h1, h2, h3, h4, h5]
  clear h0 h1 h2 h3 h4 h5
  go_enter Tryz.func114, Tryz.ntmps114
  go_wp2
  go_ret
  exact ⟨ret_i F.out, rfl⟩

/-- The k lowest bytes. -/
def lowB (x : Int) : Nat → List Int
  | 0 => []
  | k + 1 => lowB x k ++ [x / 256 ^ k % 256]
theorem lowB_len (x : Int) (k : Nat) : (lowB x k).length = k := by induction k with | zero => rfl | succ k ih => simp [lowB, ih]

set_option maxRecDepth 100000 in
set_option maxHeartbeats 2000000 in
theorem appendNumber_any (v : Value) (x : Int) (n base : Nat) (xs : List Int) (w : World) (hx0 : -2147483648 ≤ x) (hx1 : x ≤ 2147483647) (hn : n ≤ 4) (hxl : xs.length ≤ 3000) (hbase : base ≤ w.heap.size) (ho : w.ownsRow base 5 1 v xs.length (nums xs)) :
    Calls Tryz.prog 113 #[v, .int .i64 x, .int .i64 n] w fun e w' => ∃ v', e = .returned v' ∧ w'.ownsRow base 5 1 v' (xs ++ lowB x n).length (nums (xs ++ lowB x n)) ∧ Below base w w' := by
  obtain ⟨i0, hi, hz0, hz1, hz2⟩ := info_parts Tryz.infoByte
  go_enter Tryz.func113, Tryz.ntmps113
  go_wp2_with fail
  go_loopw [0, 1, 8] (fun v y i wr => ∃ k : Nat, k ≤ n ∧ i = .int .i64 k ∧ y = .int .i64 (x / 256 ^ k) ∧ wr.ownsRow base 5 1 v (xs ++ lowB x k).length (nums (xs ++ lowB x k)) ∧ Below base w wr) (fun _ _ i _ => n - (intOf i).toNat)
  case atStart => exact ⟨0, Nat.zero_le _, rfl, by simp, by simpa [lowB] using ho, Below.refl _ _⟩
  case round =>
    obtain ⟨k, hk, rfl, rfl, hor, hb⟩ := hrel
    have OR := hid hor
    have hs := hb.size
    have hlk := lowB_len x k
    have hl : (xs ++ lowB x k).length ≤ 3004 := by simp [hlk]; omega
    generalize hy : x / 256 ^ k = y
    have hy0 : -2147483648 ≤ y ∧ y ≤ 2147483647 := by
      rw [← hy]
      rcases (show k = 0 ∨ k = 1 ∨ k = 2 ∨ k = 3 ∨ k = 4 by omega) with rfl | rfl | rfl | rfl | rfl <;> simp <;> omega
    obtain ⟨hy0, hy1⟩ := hy0
    have HY := hid hy
    clear hor hy hlk
    by_cases hlt : k < n
    · go_wp2_with (at_builtin; go_must ((refine wpList_append_lies _ rfl _ _ 169 rfl base 5 i0 (.int .u8 0) 1 1 Tryz.underlying169 hi hz0 hz1 hz2 rfl (by decide) _ _ _ rfl (OR.out.alloc _) ⟨wr.heap.size, 0, none⟩ 1 1 [.int .u8 (y % 256)] rfl rfl (news_new rfl _ _) (nums_one [y % 256]) (by decide) (by unfold maxLen; omega) (by omega) (by simp; omega) (wr.heap.size + 1) (by simp) ?_; intro g6 cap6 w6 ho6 hg6 hat6 hlt6)))
      have hg : (wr.alloc (.cells #[.int .u8 (y % 256)] 5)).grownBy w6 u0.ownBlock := hg6
      have ho := nums_grow (xs := xs ++ lowB x k) (ys := [y % 256]) ho6 rfl rfl
      refine ⟨⟨k + 1, by omega, by go_num, ?_, ?_, app_below (by go_grown) hg OR.out.lt (Nat.le_refl _) (by simp; omega)⟩, by simp [intOf]; omega⟩
      · rw [← HY.out, Int.pow_succ, Int.ediv_ediv_of_nonneg (Int.pow_nonneg (by decide))]
      · rw [← List.length_append, show lowB x (k + 1) = lowB x k ++ [y % 256] by rw [← HY.out]; rfl, ← List.append_assoc]
        exact ho
    · go_wp2_with fail
      go_ret
      have hkn : k = n := by omega
      subst hkn
      exact ⟨_, rfl, OR.out, hb⟩

end Go.Proofs.YtcngmkbgcfhmdaaGreatDoor
