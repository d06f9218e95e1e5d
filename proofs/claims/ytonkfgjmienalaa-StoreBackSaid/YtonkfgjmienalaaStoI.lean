/-
  Memories (layer 11): a number is loaded that was put.
-/
import Derived.Test.YtonkfgjmienalaaStoH
import Derived.Outline
namespace Go.Proofs.Ytonkfgjmienalaa
open Go.RowKit
set_option linter.unusedVariables false
set_option linter.unusedSimpArgs false
def ldS (u v : Int) (k : Nat) : Int := bits BinOp.or IntKind.u32 u (v % 4294967296 * 2 ^ (8 * k) % 4294967296)
def ldN (bs : List BC) (off : Nat) : Nat → Int
  | 0 => 0
  | k + 1 => ldS (ldN bs off k) (bs.getD (off + k) bc0).v k
set_option maxRecDepth 100000 in
set_option maxHeartbeats 4000000 in
theorem load_set {w : World} {sb ob : Nat} {C : Option Ch} {bs : List BC} (h : MAt w sb ob C false bs) (hs : bs.length < 512) (lo hi : Int) (off n : Nat) (hn : 1 ≤ n ∧ n ≤ 4) (hst : ((n : Int) == 4 || ((n : Int) == 1 && !false)) = true) (h2 : off + n ≤ bs.length) (h3 : lo ≤ off) (h4 : (off : Int) + n ≤ hi) (hu : ∀ i, i < n → (bs.getD (off + i) bc0).s = true) :
    Calls Try.prog 9 #[.pointer (some ⟨sb, 0, none⟩), .agg #[.int .i64 1, .int .i64 lo, .int .i64 hi, .int .i64 off], .int .i64 n, .bool false] w fun r w' => r = .returned (.tuple #[.agg #[.int .u32 (ldN bs off n), .int .i64 0, .int .i64 0, .int .i64 0, .int .i64 0, .bool false], .int .i64 0]) ∧ Fr (fun _ => False) w w' := by
  have HB := boxes2 w #[.int .i64 1, .int .i64 lo, .int .i64 hi, .int .i64 off] #[.int .u32 0, .int .i64 0, .int .i64 0, .int .i64 0, .int .i64 0, .bool false] 24 26
  have hf0 := (HB.out _ (Fr.refl _ _)).1
  have HM : Hid (∀ W, Fr (fun _ => False) w W → MAt W sb ob C false bs) := Lib.hid (fun W hW => h.quiet hW)
  have HR := Lib.hid (reach_ok (h.quiet hf0).s lo hi off n (by omega) (by omega) (by omega) h3 h4 (by omega))
  have HS : Hid (∀ W, Calls Try.prog 11 #[.int .i64 n, .bool false] W fun r w' => r = .returned (.bool true) ∧ W = w') := Lib.hid (fun W => by have := storable_of n false W; rw [hst] at this; exact this)
  clear hst h hf0
  go_enter Try.func9, Try.ntmps9
  go_wp2_with (first
    | (go_at_call 11; (with_reducible refine (HS.out _).mono ?_); rintro r w1 ⟨rfl, rfl⟩)
    | (go_at_call 12; (with_reducible refine HR.out.mono ?_); rintro r w2 ⟨rfl, hf2⟩; have HF2 := Lib.hid hf2; clear hf2))
  go_loopw [12, 36] (fun nv q wl => ∃ k : Nat, q = .int .i64 k ∧ k ≤ n ∧ nv = .int .u32 (ldN bs off k) ∧ Hid (Fr (fun _ => False) w2 wl)) (fun _ q _ => n - (intOf q).toNat)
  case atStart => exact ⟨0, rfl, Nat.zero_le _, rfl, Lib.hid (Fr.refl _ _)⟩
  case round =>
    obtain ⟨k, rfl, hk, rfl, HW⟩ := hrel
    obtain ⟨hb1, hb2, hb3, hb4⟩ := HB.out wr (HF2.out.trans HW.out)
    have z3 := hb3 3 _ rfl
    have z3a : ∀ o : Obj, (wr.drew.alloc o).cell? ⟨w.heap.size, 3, none⟩ = some (.int .i64 off) := fun o => (fr_al (fr_drew (Fr.refl (fun _ => False) wr)) o).cell z3 id
    have z3b : ∀ o : Obj, (wr.alloc o).cell? ⟨w.heap.size, 3, none⟩ = some (.int .i64 off) := fun o => (fr_al (Fr.refl (fun _ => False) wr) o).cell z3 id
    obtain ⟨⟨x0, k0⟩, f0⟩ := hb4 0 (by decide)
    obtain ⟨⟨x1, k1⟩, f1⟩ := hb4 1 (by decide)
    obtain ⟨⟨x2, k2⟩, f2⟩ := hb4 2 (by decide)
    obtain ⟨⟨x3, k3⟩, f3⟩ := hb4 3 (by decide)
    obtain ⟨⟨x4, k4⟩, f4⟩ := hb4 4 (by decide)
    obtain ⟨⟨x5, k5⟩, f5⟩ := hb4 5 (by decide)
    have HF := Lib.hid hb1
    clear hb1 hb2 hb3 hb4
    by_cases hlt : k < n
    · have t0 : (0 : Int) ≤ k := by omega
      have t1 : (k : Int) < n := by omega
      have w8 : IntKind.i64.wrap (8 * (k : Int)) = 8 * k := by rw [IntKind.wrap_i64]; omega
      have t8 : (0 : Int) ≤ 8 * k := by omega
      have t9 : 8 * (k : Int) ≤ 32 := by omega
      have wo : IntKind.i64.wrap ((off : Int) + k) = off + k := by rw [IntKind.wrap_i64]; omega
      have HAT : Hid (∀ W, Fr (fun _ => False) wr W → Calls Try.prog 16 #[.pointer (some ⟨ob, 0, none⟩), .int .i64 ((off : Int) + k)] W fun r w' => r = .returned (.agg #[.int .u8 (bs.getD (off + k) bc0).v, .bool (bs.getD (off + k) bc0).s]) ∧ Fr (fun _ => False) W w') := Lib.hid (fun W hW => by
        have hm := HM.out W (HF.out.trans hW)
        have := at_of hm.s hm.b (by omega) (off + k) (by omega)
        rw [Int.natCast_add] at this
        exact this)
      have hu' := hu k hlt
      have HLD : Hid (ldN bs off (k + 1) = ldS (ldN bs off k) (bs.getD (off + k) bc0).v k) := Lib.hid rfl
      generalize bs.getD (off + k) bc0 = b at HAT hu' HLD
      have HUU := Lib.hid hu'
      clear hu'
      generalize ldN bs off k = u at *
      go_wp2
      go_region_with (first
        | (go_at_call 16; (with_reducible refine (HAT.out (wr.alloc (.cells #[.int .u8 0, .bool false] 58)).drew (fr_drew (fr_al (Fr.refl _ _) _))).mono ?_); rintro r w3 ⟨rfl, hf3⟩; have c0 : w3.cell? ⟨wr.heap.size, 0, none⟩ = some (.int .u8 0) := hf3.cell (fcell wr #[.int .u8 0, .bool false] 58 0 _ rfl) id; have c1 : w3.cell? ⟨wr.heap.size, 1, none⟩ = some (.bool false) := hf3.cell (fcell wr #[.int .u8 0, .bool false] 58 1 _ rfl) id; have g0 : w3.frozen? ⟨wr.heap.size, 0, none⟩ = false := (hf3.frozen (fcell wr #[.int .u8 0, .bool false] 58 0 _ rfl) id).trans (World.frozen?_alloc_new _ _ _ _); have g1 : w3.frozen? ⟨wr.heap.size, 1, none⟩ = false := (hf3.frozen (fcell wr #[.int .u8 0, .bool false] 58 1 _ rfl) id).trans (World.frozen?_alloc_new _ _ _ _))
        | (go_at_call 16; (with_reducible refine (HAT.out wr.drew (fr_drew (Fr.refl _ _))).mono ?_); rintro r w3 ⟨rfl, hf3⟩))
      all_goals
        have HV : Hid (∀ (V : World) (bx : Nat), (V = w3.alloc (.cells #[.int .u8 b.v, .bool b.s] 58) ∧ bx = w3.heap.size) ∨ (V = (w3.setCell ⟨wr.heap.size, 0, none⟩ (.int .u8 b.v)).setCell ⟨wr.heap.size, 1, none⟩ (.bool b.s) ∧ bx = wr.heap.size ∧ w3.cell? ⟨wr.heap.size, 0, none⟩ = some (.int .u8 0) ∧ w3.cell? ⟨wr.heap.size, 1, none⟩ = some (.bool false)) → Fr (fun _ => False) wr w3 → Fr (fun _ => False) wr V ∧ V.cell? ⟨bx, 0, none⟩ = some (.int .u8 b.v) ∧ V.cell? ⟨bx, 1, none⟩ = some (.bool b.s)) := Lib.hid (fun V bx hV hf => by
          rcases hV with ⟨rfl, rfl⟩ | ⟨rfl, rfl, c0, c1⟩
          · exact ⟨fr_al hf _, fcell w3 _ _ 0 _ rfl, fcell w3 _ _ 1 _ rfl⟩
          · exact ⟨fr_set (fr_set hf (Nat.le_refl _) _ _) (Nat.le_refl _) _ _, set_keep (World.cell?_setCell_same _ _ _ c0) (by decide), World.cell?_setCell_same _ _ _ (set_keep c1 (by decide))⟩)
        have hf3w : Fr (fun _ => False) wr w3 := by first | exact (fr_drew (Fr.refl (fun _ => False) wr)).trans hf3 | exact (fr_drew (fr_al (Fr.refl (fun _ => False) wr) _)).trans hf3
        first
          | (have hq := HV.out _ _ (.inr ⟨rfl, rfl, c0, c1⟩) hf3w; obtain ⟨V, hV⟩ : ∃ V, (w3.setCell ⟨wr.heap.size, 0, none⟩ (.int .u8 b.v)).setCell ⟨wr.heap.size, 1, none⟩ (.bool b.s) = V := ⟨_, rfl⟩; rw [hV] at hq ⊢; obtain ⟨HFV, v0, v1⟩ := hq; have HFV := Lib.hid HFV; clear hV hf3 hf3w c0 c1 g0 g1 HV)
          | (have hq := HV.out _ _ (.inl ⟨rfl, rfl⟩) hf3w; obtain ⟨V, hV⟩ : ∃ V, w3.alloc (.cells #[.int .u8 b.v, .bool b.s] 58) = V := ⟨_, rfl⟩; rw [hV] at hq ⊢; obtain ⟨HFV, v0, v1⟩ := hq; have HFV := Lib.hid HFV; clear hV hf3 hf3w HV)
        rw [HUU.out] at v1
        have HRV := Lib.hid (HW.out.trans HFV.out)
        go_wp2
        go_roundw
        case rel => exact ⟨k + 1, by go_num, by omega, by rw [HLD.out]; rfl, HRV⟩
        case measure => simp [intOf]; omega
    · obtain rfl : n = k := by omega
      go_wp2
      exact bodyPost_ret (v := .tuple #[.agg #[.int .u32 (ldN bs off n), .int .i64 0, .int .i64 0, .int .i64 0, .int .i64 0, .bool false], .int .i64 0]) (by simp [results, Try.results9, go_sem, set6' k0 k1 k2 k3 k4 k5]) rfl ⟨rfl, fr_set (fr_set (fr_set (fr_set (fr_set (fr_set HF.out (by omega) _ _) (by omega) _ _) (by omega) _ _) (by omega) _ _) (by omega) _ _) (by omega) _ _⟩
end Go.Proofs.Ytonkfgjmienalaa
