/-
  The page's example of layer 3 holds; the contract of Few.
-/
import Derived.Test.YtipfefkddnogjaaDevKk
import Derived.Test.YtipfefkddnogjaaDevH
namespace Go.Proofs.Ytipfefkddnogjaa
open Go.RowKit
set_option linter.unusedVariables false
set_option linter.unusedSimpArgs false
theorem dec_awake : [5243027, 111].map decM = [[19, 1, 0, 0, 5], [3, 0, 0, 0, 0]] := by decide +kernel
theorem run_awake (L : Lay) (ds : List Int) (h : L.code = [[19, 1, 0, 0, 5], [3, 0, 0, 0, 0]]) : (runE L 2 [] (initM ds)).c 1 = 5 ∧ (runE L 2 [] (initM ds)).c 32 = 4 ∧ (runE L 2 [] (initM ds)).c 39 = 2 ∧ (runE L 2 [] (initM ds)).c 40 = 0 := by
  obtain ⟨b, cb, co, cc, db, dof, dn, dc, ia, ic, code, ins⟩ := L
  simp only at h
  subst h
  exact ⟨rfl, rfl, rfl, rfl⟩
/-- A machine whose blocks are newer than a world. -/
def NewM (w : World) (L : Lay) (lv : Value) : Prop := ∀ k, k < w.heap.size → ¬ Foot L lv k
theorem okay_new {w w3 w4 : World} {L : Lay} {lv : Value} (hf : Fr (fun _ => False) w w3) (hn : NewM w L lv) (r : Fr (Foot L lv) w3 w4) : Fr (fun _ => False) w w4 := hf.trans' r (fun j hj hF => hn j hj hF)
theorem new_next {w w3 : World} {L : Lay} {lv lv4 : Value} (hn : NewM w L lv) (hs : w.heap.size ≤ w3.heap.size) (g : ∀ g, lv4.ownBlock = some g → lv.ownBlock = some g ∨ w3.heap.size ≤ g) : NewM w L lv4 := by
  rintro k hk (e | e | e)
  · exact hn k hk (.inl e)
  · exact hn k hk (.inr (.inl e))
  · rcases g k e with h | h
    · exact hn k hk (.inr (.inr h))
    · omega
theorem new_start {w : World} {L : Lay} (h1 : w.heap.size ≤ L.b) (h2 : w.heap.size ≤ L.db) : NewM w L (.slice none 0 0) := by
  rintro k hk (e | e | e)
  · omega
  · omega
  · cases e
set_option maxRecDepth 100000 in
set_option maxHeartbeats 4000000 in
theorem c19 (w : World) : Calls Try.prog 19 #[] w fun e w' => e = .returned (.bool true) ∧ Fr (fun _ => False) w w' := by
  obtain ⟨W, hWd⟩ : ∃ W, W = (w.alloc (.cells #[.int .u32 5243027, .int .u32 111] 24)).alloc (.cells #[.int .u8 0, .int .u8 0, .int .u8 0, .int .u8 0] 5) := ⟨_, rfl⟩
  have FW : Fr (fun _ => False) w W := by rw [hWd]; exact Fr.of_by0 (byAlloc (byAlloc (byRefl w) _) _)
  have hN : Calls Try.prog 20 #[.slice (some ⟨w.heap.size, 0, none⟩) 2 2, .slice (some ⟨w.heap.size + 1, 0, none⟩) 4 4, .slice none 0 0] W (Made [5243027, 111] [0, 0, 0, 0] [] W) := by
    refine new_at (.inr ⟨⟨w.heap.size, 0, none⟩, 2, rfl, fun i hi => ⟨rfl, ?_⟩⟩) (.inr ⟨⟨w.heap.size + 1, 0, none⟩, 4, rfl, fun i hi => ⟨rfl, ?_⟩⟩) (.inl ⟨rfl, rfl⟩) (fun k hk => ?_) (fun k hk => ?_) (fun k hk => absurd hk (by simp)) (by decide) (by decide +kernel)
    · have : i = 0 ∨ i = 1 := by simp at hi; omega
      have hb : (w.alloc (.cells #[.int .u32 5243027, .int .u32 111] 24)).grownBy W none := by rw [hWd]; exact World.grownBy_alloc _ _ _
      rcases this with rfl | rfl
      · exact hb.cell (row_cell w #[.int .u32 5243027, .int .u32 111] 24 0 _ rfl) (by simp)
      · exact hb.cell (row_cell w #[.int .u32 5243027, .int .u32 111] 24 1 _ rfl) (by simp)
    · have : i = 0 ∨ i = 1 ∨ i = 2 ∨ i = 3 := by simp at hi; omega
      have hs : (w.alloc (.cells #[.int .u32 5243027, .int .u32 111] 24)).heap.size = w.heap.size + 1 := by simp
      have hz := fun j v h => row_cell (w.alloc (.cells #[.int .u32 5243027, .int .u32 111] 24)) #[.int .u8 0, .int .u8 0, .int .u8 0, .int .u8 0] 5 j v h
      rw [hs] at hz
      rw [hWd]
      rcases this with rfl | rfl | rfl | rfl
      · exact hz 0 _ rfl
      · exact hz 1 _ rfl
      · exact hz 2 _ rfl
      · exact hz 3 _ rfl
    · have : k = 0 ∨ k = 1 := by simp at hk; omega
      rcases this with rfl | rfl <;> simp
    · have : k = 0 ∨ k = 1 ∨ k = 2 ∨ k = 3 := by simp at hk; omega
      rcases this with rfl | rfl | rfl | rfl <;> simp
  have HN := Lib.hid hN
  have HFW := Lib.hid FW
  clear hN FW
  have hmk : ∀ w : World, (Instr.makeSlice 40 (.int .i64 4) (.int .i64 4)).run Try.prog w = .ok (.slice (some ⟨w.heap.size, 0, none⟩) 4 4) (w.alloc (.cells #[.int .u8 0, .int .u8 0, .int .u8 0, .int .u8 0] 5)) := fun w => by kernel_rfl
  go_enter Try.func19, Try.ntmps19
  go_wp2_with fail
  rw [← hWd]
  go_at_call 20
  refine HN.out.mono ?_
  rintro e w3 ⟨L, rfl, hc, _, _, hA, hW, hF, hb1, hb2, _⟩
  obtain ⟨r1, r32, r39, r40⟩ := run_awake L [0, 0, 0, 0] (hc.trans dec_awake)
  have H21 := Lib.hid (c21 hA hW (by decide) 2 (by decide) (.slice none 0 0) [] ⟨none, 0, rfl, Nat.le_refl _, by decide, .inl rfl⟩)
  have hsz := HFW.out.size
  have HNW : Hid (NewM w L (.slice none 0 0)) := Lib.hid (new_start (by omega) (by omega))
  obtain ⟨b, hb⟩ : ∃ b, L.b = b := ⟨_, rfl⟩
  have HF3 := Lib.hid (HFW.out.trans hF)
  rw [hb] at H21 ⊢
  have HR := Lib.hid (And.intro r1 (And.intro r32 (And.intro r39 r40)))
  have HBB := Lib.hid hb
  clear hA hW hF hWd HN HFW r1 r32 r39 r40 hb hc hmk hsz hb1 hb2
  go_wp2_with fail
  go_at_call 21
  refine H21.out.mono ?_
  rintro e w4 ⟨rfl, lv4, A4, W4, F4, G4⟩
  obtain ⟨r1, r32, r39, r40⟩ := HR.out
  have k1 := A4.reg (r := 1) (by decide)
  have k32 : w4.cell? ⟨L.b, 32, none⟩ = some (.int .u32 ((runE L 2 [] (initM [0, 0, 0, 0])).c 32)) := A4.num 32 (.inl (by decide))
  have HW4 := Lib.hid (okay_new HF3.out HNW.out F4)
  have HN4 := Lib.hid (new_next HNW.out HF3.out.size G4)
  have h55 := (fail_at A4 W4 r40).mono (R' := fun e w' => e = .returned (.tuple #[]) ∧ Fr (fun _ => False) w w' ∧ w'.cell? ⟨L.b, 1, none⟩ = some (.int .u32 0) ∧ w'.cell? ⟨L.b, 32, none⟩ = some (.int .u32 0) ∧ w'.cell? ⟨L.b, 39, none⟩ = some (.int .i64 2)) (by
    rintro e w' ⟨rfl, lv5, A5, W5, F5, G5⟩
    refine ⟨rfl, okay_new HW4.out HN4.out F5, A5.reg (r := 1) (by decide), A5.num 32 (.inl (by decide)), ?_⟩
    have := A5.num 39 (.inr (by decide))
    rw [(fail_steps _).1, r39] at this
    exact this)
  rw [HBB.out] at k1 k32 h55
  rw [r1] at k1
  rw [r32] at k32
  have H55 := Lib.hid h55
  have H26 : Hid (Calls Try.prog 26 #[.pointer (some ⟨b, 0, none⟩), .int .i64 1] w4 fun e w' => e = .returned (.int .u32 5) ∧ w' = w4) := Lib.hid (c26 b 1 (by decide) 5 w4 k1)
  have H24 := Lib.hid (c24 b 4 w4 k32)
  clear A4 W4 F4 G4 r1 r32 r39 r40 H21 k1 k32 h55
  go_wp2_with (first
    | (go_at_call 26; (with_reducible refine H26.out.mono ?_); rintro e w5 ⟨rfl, rfl⟩)
    | (go_at_call 24; (with_reducible refine H24.out.mono ?_); rintro e w5 ⟨rfl, rfl⟩)
    | (go_at_call 55; (with_reducible refine H55.out.mono ?_); rintro e w5 ⟨rfl, hf5, k1, k32, k39⟩; have HF5 := Lib.hid hf5; have G26 : Hid (Calls Try.prog 26 #[.pointer (some ⟨b, 0, none⟩), .int .i64 1] w5 fun e w' => e = .returned (.int .u32 0) ∧ w' = w5) := Lib.hid (c26 b 1 (by decide) 0 w5 k1); have G24 := Lib.hid (c24 b 0 w5 k32); have G23 := Lib.hid (c23 b 2 w5 k39); clear hf5 k1 k32 k39)
    | (go_at_call 26; (with_reducible refine G26.out.mono ?_); rintro e w6 ⟨rfl, rfl⟩)
    | (go_at_call 24; (with_reducible refine G24.out.mono ?_); rintro e w6 ⟨rfl, rfl⟩)
    | (go_at_call 23; (with_reducible refine G23.out.mono ?_); rintro e w6 ⟨rfl, rfl⟩))
  go_ret
  exact ⟨rfl, HF5.out⟩
end Go.Proofs.Ytipfefkddnogjaa
