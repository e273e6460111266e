/- What ins.moves and ins.Effect return, and the document's own answers (InsMay, Effect), for every instruction and any args. -/
import Derived.Test.YtclpnmideableaaIns
import Derived.Test.YtclpnmideableaaRefDo
namespace Go.Proofs.Ytclpnmideableaa
open Go.RowKit

theorem ret_two {a a' b b' : Int} (h1 : a = a') (h2 : b = b') :
    Ending.returned (.tuple #[.int .i64 a, .int .i64 b]) = .returned (.tuple #[.int .i64 a', .int .i64 b']) := by rw [h1, h2]
theorem ret_3i {a a' b b' c c' : Int} (h1 : a = a') (h2 : b = b') (h3 : c = c') :
    Ending.returned (.tuple #[.int .i64 a, .int .i64 b, .int .i64 c]) = .returned (.tuple #[.int .i64 a', .int .i64 b', .int .i64 c']) := by rw [h1, h2, h3]

set_option maxHeartbeats 1000000 in
theorem refMay_any (k a : Int) (w : World) :
    Calls Try.prog 34 #[.agg #[.int .i64 k, .int .i64 a]] w fun e w' => e = .returned (.bool (mayB k a)) ∧ Below w.heap.size w w' := by
  by_cases h0 : k = 0
  · subst h0
    go_enter Try.func34, Try.ntmps34
    go_wp2_with (first | (go_at_call 40; refine (refNumber_any _ _).mono ?_; rintro e w' ⟨rfl, rfl⟩))
    go_ret
    exact ⟨rfl, by go_grown⟩
  by_cases ha : 0 ≤ a
  · by_cases h1 : k = 1
    · subst h1
      go_enter Try.func34, Try.ntmps34
      go_wp2
      go_ret
      exact ⟨ret_bool (by simp [may1, belowB, ha]), by go_grown⟩
    by_cases h2 : k = 2
    · subst h2
      go_enter Try.func34, Try.ntmps34
      go_wp2
      go_ret
      exact ⟨ret_bool (by simp [may2, belowB, ha]), by go_grown⟩
    by_cases h3 : k = 12
    · subst h3
      go_enter Try.func34, Try.ntmps34
      go_wp2
      go_ret
      exact ⟨ret_bool (by simp [may12, belowB, ha]), by go_grown⟩
    by_cases h4 : k = 13
    · subst h4
      go_enter Try.func34, Try.ntmps34
      go_wp2
      go_ret
      exact ⟨ret_bool (by simp [may13, belowB, ha]), by go_grown⟩
    by_cases h5 : k = 14
    · subst h5
      go_enter Try.func34, Try.ntmps34
      go_wp2
      go_ret
      exact ⟨ret_bool (by simp [may14, belowB, ha]), by go_grown⟩
    have he := hid (may_else (a := a) h0 h1 h2 h3 h4 h5)
    by_cases h6 : 3 ≤ k
    · by_cases h7 : k ≤ 16
      · have hk := hid (show kindB k = true by simp [kindB]; omega)
        go_enter Try.func34, Try.ntmps34
        go_wp2
        go_ret
        exact ⟨ret_bool (by rw [he.out, hk.out]; simp), by go_grown⟩
      · have hk := hid (show kindB k = false by simp [kindB]; omega)
        go_enter Try.func34, Try.ntmps34
        go_wp2
        go_ret
        exact ⟨ret_bool (by rw [he.out, hk.out]; simp), by go_grown⟩
    · have hk := hid (show kindB k = false by simp [kindB]; omega)
      go_enter Try.func34, Try.ntmps34
      go_wp2
      go_ret
      exact ⟨ret_bool (by rw [he.out, hk.out]; simp), by go_grown⟩
  · have hb8 : belowB a 8 = false := by simp [belowB]; omega
    have hb64 : belowB a 64 = false := by simp [belowB]; omega
    have hm : mayB k a = false := by
      unfold mayB
      rw [if_neg h0, hb8, hb64]
      split
      · rfl
      split
      · rfl
      split
      · rfl
      · simp; omega
    have HM := hid hm
    clear hm hb8 hb64
    go_enter Try.func34, Try.ntmps34
    go_wp2
    all_goals
      go_ret
      exact ⟨ret_bool (by first | exact HM.out.symm | (rw [HM.out]; simp; done) | (rw [HM.out]; simp; omega)), by go_grown⟩

end Go.Proofs.Ytclpnmideableaa
