/-
  Memories (layer 11): the walk of the law on what is put and told: what it refuses.
-/
import Derived.Test.YtonkfgjmienalaaStoZ
namespace Go.Proofs.Ytonkfgjmienalaa.storeBack
open Go.RowKit Go.Maps
set_option linter.unusedVariables false
set_option linter.unusedSimpArgs false
set_option maxRecDepth 100000 in
set_option maxHeartbeats 4000000 in
theorem walk_bad (size at_ u y0 : Int) (p q : PV) (b1 b2 : Bool) (h : ¬ (8 ≤ size ∧ size ≤ 300 ∧ 0 ≤ at_ ∧ at_ ≤ size - 8)) (hs : -9223372036854775808 ≤ size ∧ size ≤ 9223372036854775807) (w : World) :
    Calls Try.prog 3 #[.agg #[.int .i64 size, .int .i64 at_, .int .u32 u, .int .i64 p.ob, .int .i64 p.lo, .int .i64 p.hi, .int .i64 p.off, .bool b1, .int .u32 y0, .int .i64 q.ob, .int .i64 q.lo, .int .i64 q.hi, .int .i64 q.off, .bool b2]] w fun e w' => e = .returned (.bool true) ∧ Fr (fun _ => False) w w' := by
  have hc : size < 8 ∨ (¬ size < 8 ∧ 300 < size) ∨ (¬ size < 8 ∧ ¬ 300 < size ∧ at_ < 0) ∨ (¬ size < 8 ∧ ¬ 300 < size ∧ ¬ at_ < 0 ∧ size - 8 < at_) := by omega
  clear h
  go_enter Try.func3, Try.ntmps3
  go_wp2
  go_cut [3, 4, 5, 6] from 20 to 27 (fun s3 s4 s5 s6 wx => ∃ vb wb : Nat, s3 = .int .i64 size ∧ s4 = .int .i64 at_ ∧ s5 = .pointer (some ⟨vb, 0, none⟩) ∧ s6 = .pointer (some ⟨wb, 0, none⟩) ∧ Hid (Two w vb wb (vlC u p b1) (vlC y0 q b2) wx))
  case first =>
    go_region
    all_goals go_wp2_with fail
    all_goals go_meet
    · exact ⟨_, _, rfl, rfl, rfl, rfl, Lib.hid (Two.mk1 w _ (vlC u p b1) (vlC y0 q b2) _ 1)⟩
    · exact ⟨_, _, rfl, rfl, rfl, rfl, Lib.hid (Two.mk2 w _ (vlC u p b1) (vlC y0 q b2) _ 1)⟩
  case rest =>
    obtain ⟨vb, wb, rfl, rfl, rfl, rfl, HC⟩ := hcut
    rcases hc with h | ⟨h, h'⟩ | ⟨h, h', h''⟩ | ⟨h, h', h'', h3⟩
    all_goals
      go_wp2_with (go_at_call 4; (with_reducible refine (awake_of _).mono ?_); rintro r wa ⟨rfl, hf⟩; have HFA := Lib.hid hf; clear hf)
      go_ret
      exact ⟨rfl, HC.out.2.2.2.2.2.trans HFA.out⟩
end Go.Proofs.Ytonkfgjmienalaa.storeBack
