/-
  The contracts of Values, of the library's Equal at words, of Begins and Whole (layer 4).
-/
import Derived.Test.YtipfefkddnogjaaRecG
namespace Go.Proofs.Ytipfefkddnogjaa
open Go.RowKit Go.Maps
set_option linter.unusedVariables false
set_option linter.unusedSimpArgs false

theorem info24 : (Try.prog.info? 24).map (fun i => (i.zero, i.size, i.bytes)) = some (some (.int .u32 0), 1, 4) := by kernel_rfl
def vals (l : List Rc) : List Int := (firsts l).map (·.2)
def ValsP (l : List Rc) (w : World) (e : Ending) (w' : World) : Prop := ∃ a c, e = .returned (.slice a (vals l).length c) ∧ IntAt w' a (vals l) ∧ w.grownBy w' none
theorem valsP_ret {l : List Rc} {w w' : World} {base t : Nat} {v : Value} (h : w'.ownsRow base t 1 v (vals l).length (uCells (vals l))) (hg : w.grownBy w' none) : ValsP l w (.returned v) w' := by
  obtain ⟨a, c, rfl, h2⟩ := intAt_own h
  exact ⟨a, c, rfl, h2, hg⟩
theorem one_cell' (w : World) (t : TypeId) (x : Value) : ∀ (j : Nat) (u : Value), [x][j]? = some u → (w.alloc (.cells #[x] t)).cell? ((⟨w.heap.size, 0, none⟩ : Addr).add j) = some u := by
  intro j u h
  match j, h with
  | 0, h => rw [Addr.add_lit]; exact row_cell w #[x] t 0 u (by simpa using h)
  | n + 1, h => simp at h
set_option maxRecDepth 100000 in
set_option maxHeartbeats 8000000 in
theorem c32 (a : Option Addr) (c : Nat) (l : List Rc) (hl : l.length < 1000000) (hr : Rcs l) (w : World) (hat : RecAt w a l) :
    Calls Try.prog 32 #[.slice a l.length c] w (ValsP l w) := by
  obtain ⟨i24, hi, hz0, hz1, hz2⟩ := info_parts info24
  have HI := Lib.hid hi
  have HZ0 := Lib.hid hz0
  have HZ1 := Lib.hid hz1
  have HZ2 := Lib.hid hz2
  have HA := Lib.hid hat
  have HR := Lib.hid hr
  have hf := length_firsts l
  have hV : Hid (vals l = (firsts l).map (·.2)) := Lib.hid rfl
  clear hat hr hi hz0 hz1 hz2
  go_enter Try.func32, Try.ntmps32
  go_wp2_with (go_at_call 30; (with_reducible refine (c30 a c l hl HR.out w HA.out).mono ?_); rintro e w1 ⟨a1, c1, rfl, ha1, hg⟩; have HG := Lib.hid hg; have HA1 := Lib.hid ha1; clear hg ha1)
  clear HA HR
  generalize hfl : firsts l = fl at *
  have HFL := Lib.hid hfl
  clear hfl
  have hbs : w.heap.size ≤ w1.heap.size := HG.out.size
  have H0 : Hid (w1.ownsRow w1.heap.size 24 1 (.slice none 0 0) 0 (uCells ((fl.take 0).map (·.2)))) := Lib.hid (World.ownsRow_nil _ _ _ _)
  go_loopw [3, 9] (fun v i wr => ∃ k : Nat, k ≤ fl.length ∧ i = .int .i64 k ∧ Hid (wr.ownsRow w1.heap.size 24 1 v k (uCells ((fl.take k).map (·.2)))) ∧ Hid (w1.grownBy wr none) ∧ Hid (w.grownBy wr none)) (fun _ i _ => fl.length - (intOf i).toNat)
  case atStart => exact ⟨0, by omega, rfl, H0, Lib.hid (by_refl _), HG⟩
  case round =>
    obtain ⟨k, hk, rfl, HW, HB1, HB⟩ := hrel
    clear H0
    by_cases hlt : k < fl.length
    · obtain ⟨b, o, rfl, z0, z1⟩ := recAt_by HA1.out HB1.out k hlt
      have hts := take_snoc hlt
      have F1 : Hid (uCells ((fl.take (k + 1)).map (·.2)) = uCells ((fl.take k).map (·.2)) ++ [.int .u32 (fl.getD k (0, 0)).2]) := Lib.hid (by rw [hts]; simp [uCells])
      have hsz : w1.heap.size ≤ wr.heap.size := HB1.out.size
      clear hts
      generalize fl.getD k (0, 0) = r at *
      go_wp2_with (first
        | (at_builtin; refine wpList_append_own _ rfl _ _ 39 rfl w1.heap.size 24 i24 (.int .u32 0) 1 4 Try.underlying39 HI.out HZ0.out HZ1.out HZ2.out rfl (by decide) _ k (uCells ((fl.take k).map (·.2))) rfl (by exact (HW.out.alloc _).alloc _) ⟨wr.heap.size + 1, 0, none⟩ 1 1 [.int .u32 r.2] rfl rfl (by have := one_cell' (wr.alloc (.cells #[.int .u32 r.1, .int .u32 r.2] 66)) 24 (.int .u32 r.2); simpa using this) (by simp [Value.oneCell']) (by unfold maxLen; omega) (by omega) (by simp; omega) ?_
           intro v' w3 hown3 hg3 _
           have HR3 : Hid (w3.ownsRow w1.heap.size 24 1 v' (k + 1) (uCells ((fl.take (k + 1)).map (·.2)))) := Lib.hid (by rw [F1.out]; exact hown3)
           have HB3 := Lib.hid ((by_alloc (by_alloc HB1.out _) _).andThen hg3 (fun j hj => Or.inl (HW.out.lt j hj).1))
           have HB4 := Lib.hid ((by_alloc (by_alloc HB.out _) _).andThen hg3 (fun j hj => Or.inl (Nat.le_trans hbs (HW.out.lt j hj).1)))
           clear hown3 hg3))
      go_roundw
      case rel => exact ⟨k + 1, by omega, by go_num, HR3, HB3, HB4⟩
      case measure => simp [intOf]; omega
    · have hk4 : k = fl.length := by omega
      subst hk4
      go_wp2
      go_ret
      have hW := HW.out
      rw [List.take_length, ← HFL.out] at hW
      have e : (vals l).length = (firsts l).length := by unfold vals; simp
      exact valsP_ret (by rw [e]; exact hW) HB.out
/-- Equal of words. -/
theorem c64_ne (a a' : Option Addr) (c c' n n' : Nat) (hn : n ≠ n') (w : World) :
    Calls Try.prog 64 #[.slice a n c, .slice a' n' c'] w fun e w' => e = .returned (.bool false) ∧ w.grownBy w' none := by
  have h1 : ((n : Int) != (n' : Int)) = true := by rw [bne_iff_ne]; omega
  have HB := Lib.hid (by_refl w)
  go_enter Try.func64, Try.ntmps64
  go_wp2
  go_ret
  exact ⟨rfl, HB.out⟩
theorem eq_prefix {xs ys : List Int} (hn : xs.length = ys.length) (h : ∀ i, i < xs.length → xs.getD i 0 = ys.getD i 0) : xs = ys := by
  apply List.ext_getElem hn
  intro i h1 h2
  have := h i h1
  simpa [List.getD_eq_getElem?_getD, List.getElem?_eq_getElem h1, List.getElem?_eq_getElem h2] using this
set_option maxHeartbeats 4000000 in
theorem c64_eq (a a' : Option Addr) (c c' : Nat) (xs ys : List Int) (hn : xs.length = ys.length) (hlen : xs.length < 100000000) (w : World) (hx : IntAt w a xs) (hy : IntAt w a' ys) :
    Calls Try.prog 64 #[.slice a xs.length c, .slice a' xs.length c'] w fun e w' => e = .returned (.bool (xs == ys)) ∧ w.grownBy w' none := by
  have HX := Lib.hid hx
  have HY := Lib.hid hy
  have HN := Lib.hid hn
  clear hx hy hn
  have HB := Lib.hid (by_refl w)
  have H0 : Hid (∀ i : Nat, i < 0 → xs.getD i 0 = ys.getD i 0) := Lib.hid (fun i hi => absurd hi (by omega))
  go_enter Try.func64, Try.ntmps64
  go_wp2
  go_loopw [13] (fun i wr => ∃ k : Nat, k ≤ xs.length ∧ i = .int .i64 k ∧ Hid (∀ i : Nat, i < k → xs.getD i 0 = ys.getD i 0) ∧ Hid (w.grownBy wr none)) (fun i _ => xs.length - (intOf i).toNat)
  case atStart => exact ⟨0, by omega, rfl, H0, HB⟩
  case round =>
    obtain ⟨k, hk, rfl, HE, HW⟩ := hrel
    clear H0 HB
    by_cases hlt : k < xs.length
    · obtain ⟨b, o, rfl, z0⟩ := intAt_by HX.out HW.out k hlt
      obtain ⟨b', o', rfl, z1⟩ := intAt_by HY.out HW.out k (by have := HN.out; omega)
      have hlt' : (k : Int) < xs.length := by omega
      have hge : (0 : Int) ≤ k := by omega
      cases he : (xs.getD k 0 == ys.getD k 0)
      · have HP : Hid ((xs == ys) = false) := Lib.hid (by
          cases h : (xs == ys) with
          | false => rfl
          | true =>
            have := beq_iff_eq.1 h
            rw [this] at he; simp at he)
        have he' : (xs.getD k 0 != ys.getD k 0) = true := by unfold bne; rw [he]; rfl
        clear he
        generalize xs.getD k 0 = x at *
        generalize ys.getD k 0 = y at *
        go_wp2
        go_quiet (fail)
        go_wp2
        go_ret
        exact ⟨by rw [HP.out]; rfl, by_drewN HW.out _⟩
      · have HE' : Hid (∀ i : Nat, i < k + 1 → xs.getD i 0 = ys.getD i 0) := Lib.hid (fun i hi => by
          by_cases h : i = k
          · subst h; exact beq_iff_eq.1 he
          · exact HE.out i (by omega))
        have he' : (xs.getD k 0 != ys.getD k 0) = false := by unfold bne; rw [he]; rfl
        clear he
        generalize xs.getD k 0 = x at *
        generalize ys.getD k 0 = y at *
        go_wp2
        go_quiet (fail)
        go_wp2
        go_roundw
        case rel => exact ⟨k + 1, by omega, by go_num, HE', Lib.hid (by_drewN HW.out _)⟩
        case measure => simp [intOf]; omega
    · have hk4 : k = xs.length := by omega
      subst hk4
      have HP : Hid ((xs == ys) = true) := Lib.hid (by rw [beq_iff_eq]; exact eq_prefix HN.out HE.out)
      go_wp2
      go_ret
      exact ⟨by rw [HP.out]; rfl, HW.out⟩
end Go.Proofs.Ytipfefkddnogjaa
