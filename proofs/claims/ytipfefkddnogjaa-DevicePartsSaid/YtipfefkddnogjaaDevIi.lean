/-
  The contract of New (layer 3): the machine that it makes lies in the world, or there is none.
-/
import Derived.Test.YtipfefkddnogjaaDevGg
import Derived.Test.YtipfefkddnogjaaDevHh
import Derived.Test.YtipfefkddnogjaaDevP
import Derived.WalkSpells
namespace Go.Proofs.Ytipfefkddnogjaa
open Go.RowKit
set_option linter.unusedVariables false
set_option linter.unusedSimpArgs false
/-- May a machine have so many words and bytes? -/
def mayB (n m : Int) : Bool := if n < 1 then false else if 32768 < n then false else if m < 4 then false else if 65536 < m then false else m % 4 == 0
set_option maxRecDepth 100000 in
set_option maxHeartbeats 2000000 in
theorem c20_no (a0 : Option Addr) (n c0 : Nat) (a1 : Option Addr) (m c1 : Nat) (v2 : Value) (hn : n ≤ 100000) (hm : m ≤ 100000) (h : mayB n m = false) (w : World) :
    Calls Try.prog 20 #[.slice a0 n c0, .slice a1 m c1, v2] w fun e w' => e = .returned (.tuple #[.pointer none, .int .i64 1]) ∧ w = w' := by
  unfold mayB at h
  by_cases h1 : (n : Int) < 1
  · clear h
    go_enter Try.func20, Try.ntmps20
    go_wp2
    go_ret2
    exact ⟨rfl, rfl⟩
  rw [if_neg h1] at h
  by_cases h2 : 32768 < (n : Int)
  · clear h
    go_enter Try.func20, Try.ntmps20
    go_wp2
    go_ret2
    exact ⟨rfl, rfl⟩
  rw [if_neg h2] at h
  by_cases h3 : (m : Int) < 4
  · clear h
    go_enter Try.func20, Try.ntmps20
    go_wp2
    go_ret2
    exact ⟨rfl, rfl⟩
  rw [if_neg h3] at h
  by_cases h4 : 65536 < (m : Int)
  · clear h
    go_enter Try.func20, Try.ntmps20
    go_wp2
    go_ret2
    exact ⟨rfl, rfl⟩
  rw [if_neg h4] at h
  go_enter Try.func20, Try.ntmps20
  go_wp2
  go_ret2
  exact ⟨rfl, rfl⟩
def InsOk (ins : List Int) (w : World) (iv : Value) (w' : World) : Prop :=
  (iv = .slice none 0 0 ∧ ins = [] ∧ w = w') ∨ (iv ≠ .slice none 0 0 ∧ w'.ownsRow w.heap.size 24 1 iv ins.length (ins.map (Value.int .u32)) ∧ w.grownBy w' none)
def DataOk (ds : List Int) (w : World) (dv : Value) (w' : World) : Prop :=
  dv ≠ .slice none 0 0 ∧ w'.ownsRow w.heap.size 5 1 dv ds.length (ds.map (Value.int .u8)) ∧ w.grownBy w' none
def machL (g n : Nat) (dv iv : Value) : List Value := List.replicate 35 (.int .u32 0) ++ [.slice (some ⟨g, 0, none⟩) n n, dv, iv, .slice none 0 0, .int .i64 0, .int .i64 0, .int .u32 0]
set_option maxRecDepth 100000 in
set_option maxHeartbeats 4000000 in
theorem c20_yes (a0 : Option Addr) (ws : List Int) (c0 : Nat) (a1 : Option Addr) (m c1 : Nat) (v2 : Value) (w : World) (hn : ws.length ≤ 32768) (hn0 : 0 < ws.length) (hm : m ≤ 65536) (hm0 : 4 ≤ m) (hm4 : (m : Int) % 4 = 0) (Sd Si : World → Value → World → Prop)
    (H56 : Hid (Calls Try.prog 56 #[.slice a0 ws.length c0] w fun e w' => ∃ g, e = .returned (.slice (some ⟨g, 0, none⟩) ws.length ws.length) ∧ w.heap.size ≤ g ∧ g < w'.heap.size ∧ Fr (fun _ => False) w w' ∧ DecAt w' g ws.length ws))
    (H57 : Hid (∀ w1, Fr (fun _ => False) w w1 → Calls Try.prog 57 #[.slice a1 m c1] w1 fun e w' => ∃ da dl dc, e = .returned (.slice da dl dc) ∧ Sd w1 (.slice da dl dc) w'))
    (H58 : Hid (∀ w1 dv w2, Fr (fun _ => False) w w1 → Sd w1 dv w2 → Calls Try.prog 58 #[v2] w2 fun e w' => ∃ ia il ic, e = .returned (.slice ia il ic) ∧ Si w2 (.slice ia il ic) w')) :
    Calls Try.prog 20 #[.slice a0 ws.length c0, .slice a1 m c1, v2] w fun e w' => ∃ g dv iv w1 w2 w3, e = .returned (.tuple #[.pointer (some ⟨w3.heap.size, 0, none⟩), .int .i64 0]) ∧
      (w.heap.size ≤ g ∧ g < w1.heap.size ∧ Fr (fun _ => False) w w1 ∧ DecAt w1 g ws.length ws) ∧ Sd w1 dv w2 ∧ Si w2 iv w3 ∧ w' = w3.alloc (.cells (machL g ws.length dv iv).toArray 95) := by
  obtain ⟨n, hnn⟩ : ∃ n, ws.length = n := ⟨_, rfl⟩
  rw [hnn] at hn hn0 H56
  rw [hnn]
  clear hnn
  go_enter Try.func20, Try.ntmps20
  go_wp2_with (first
    | (go_at_call 56; (with_reducible refine H56.out.mono ?_); rintro e w1 ⟨g, rfl, h1⟩; have HQ1 := Lib.hid h1; clear h1)
    | (go_at_call 57; (with_reducible refine (H57.out _ HQ1.out.2.2.1).mono ?_); rintro e w2 ⟨da, dl, dc, rfl, h2⟩; have HQ2 := Lib.hid h2; clear h2)
    | (go_at_call 58; (with_reducible refine (H58.out _ _ _ HQ1.out.2.2.1 HQ2.out).mono ?_); rintro e w3 ⟨ia, il, ic, rfl, h3⟩; have HQ3 := Lib.hid h3; clear h3))
  go_ret2
  exact ⟨g, _, _, w1, w2, w3, rfl, HQ1.out, HQ2.out, HQ3.out, rfl⟩
end Go.Proofs.Ytipfefkddnogjaa
