import Derived.Test.YtiggcpfmmgmncaaSa22
import Derived.Test.YtiggcpfmmgmncaaSa17
section
namespace Go.Proofs.Ytiggcpfmmgmncaa
open Go.ChangeShapes Go.WideShapes Go.ChangeAt Go.RowKit
set_option linter.unusedVariables false
set_option linter.unusedSimpArgs false

def NobS (w : World) (p : Option Addr) : Prop := p = none ∨ ∃ s, p = some ⟨s, 0, none⟩ ∧ w.heap[s]? = some (.cells #[.pointer none, .int .i64 0, .int .i64 0, .int .i64 0, .int .i64 0, .slice none 0 0, .int .i64 0, .bool false] 66 (0, 0))
theorem NobS.below {w w' : World} {p : Option Addr} (h : NobS w p) (hb : Below w.heap.size w w') : NobS w' p := by
  rcases h with h | ⟨b, h1, h2⟩
  · exact .inl h
  · exact .inr ⟨b, h1, by rw [hb.block b (Array.getElem?_eq_some_iff.1 h2).1]; exact h2⟩
theorem nobs_got {w : World} {b : Nat} (h : w.heap[b]? = some (.cells #[.pointer none, .int .i64 0, .int .i64 0, .int .i64 0, .int .i64 0, .slice none 0 0, .int .i64 0, .bool false] 66 (0, 0))) :
    w.cell? ⟨b, 0, none⟩ = some (.pointer none) ∧ w.cell? ⟨b, 5, none⟩ = some (.slice none 0 0) ∧ w.cell? ⟨b, 6, none⟩ = some (.int .i64 0) ∧ b < w.heap.size := by
  refine ⟨?_, ?_, ?_, (Array.getElem?_eq_some_iff.1 h).1⟩ <;> (rw [cell_of_row w b _ _ _ (0, 0) h]; rfl)
set_option maxHeartbeats 1000000 in
set_option maxRecDepth 100000 in
theorem nused_any (p : Option Addr) (w : World) (h : NobS w p) :
    Calls Try.prog 28 #[.pointer p] w fun e w' => e = .returned (.int .i64 0) ∧ Below w.heap.size w w' := by
  rcases h with rfl | ⟨b, rfl, hb⟩
  · go_enter Try.func28, Try.ntmps28
    go_wp2_with fail
    go_ret
    exact ⟨rfl, Below.refl _ _⟩
  · obtain ⟨k0, k4, k5, hlt⟩ := nobs_got hb
    clear hb
    go_enter Try.func28, Try.ntmps28
    go_wp2_with fail
    go_ret
    exact ⟨rfl, Below.refl _ _⟩
set_option maxHeartbeats 1000000 in
set_option maxRecDepth 100000 in
theorem napp_any (p : Option Addr) (A : Option Addr) (n c : Nat) (w : World) (h : NobS w p) :
    Calls Try.prog 18 #[.pointer p, .slice A n c] w fun e w' => e = .returned (.int .i64 1) ∧ Below w.heap.size w w' := by
  rcases h with rfl | ⟨b, rfl, hb⟩
  · go_enter Try.func18, Try.ntmps18
    go_wp2_with fail
    go_ret
    exact ⟨rfl, Below.refl _ _⟩
  · obtain ⟨k0, k4, k5, hlt⟩ := nobs_got hb
    clear hb
    go_enter Try.func18, Try.ntmps18
    go_wp2_with fail
    go_ret
    exact ⟨rfl, Below.refl _ _⟩
set_option maxHeartbeats 4000000 in
set_option maxRecDepth 100000 in
theorem nrecords_any (p : Option Addr) (w : World) (h : NobS w p) :
    Calls Try.prog 27 #[.pointer p] w fun e w' => (∃ (A' : Option Addr) (c' : Nat), e = .returned (.slice A' 0 c')) ∧ Below w.heap.size w w' := by
  rcases h with rfl | ⟨b, rfl, hb⟩
  · go_enter Try.func27, Try.ntmps27
    go_wp2_with fail
    go_ret
    exact ⟨⟨_, _, rfl⟩, Below.refl _ _⟩
  · have HSC := Lib.hid (fun V (hV : Below w.heap.size w V) => (show V.cell? ⟨b, 5, none⟩ = some (.slice none 0 0) ∧ b < V.heap.size from by
      obtain ⟨k0, k5, k6, hlt⟩ := nobs_got hb
      exact ⟨(hV.cell (p := ⟨b, 5, none⟩) hlt).trans k5, Nat.lt_of_lt_of_le hlt hV.size⟩))
    obtain ⟨p5, ps⟩ := HSC.out _ (Below.refl _ w)
    clear hb
    go_enter Try.func27, Try.ntmps27
    go_wp2_with (first
      | (at_make; refine wpList_mk rfl (.const (.int .i64 0)) (.tmp 12) rfl EDR 0 rfl rfl rfl (by omega) (by unfold maxLen; omega) (Nat.le_refl _) ?_; intro w1 own1 hb1; obtain ⟨p5, ps⟩ := HSC.out _ hb1)
      | fail)
    clear p5 ps
    have HB1 := Lib.hid hb1
    clear hb1 own1
    go_loopw [3, 19] (fun bv iv wr => (∃ (A2 : Option Addr) (c2 : Nat), bv = .slice A2 0 c2) ∧ iv = .int .i64 0 ∧ Below w.heap.size w wr) (fun _ _ _ => 1)
    case atStart => exact ⟨⟨_, _, rfl⟩, rfl, HB1.out⟩
    case round =>
      obtain ⟨⟨A2, c2, rfl⟩, rfl, hB⟩ := hrel
      go_wp2_with fail
      go_ret
      exact ⟨⟨_, _, rfl⟩, hB⟩
end Go.Proofs.Ytiggcpfmmgmncaa
end
section
namespace Go.Proofs.Ytiggcpfmmgmncaa
open Go.ChangeShapes Go.WideShapes Go.ChangeAt Go.RowKit
set_option linter.unusedVariables false
set_option linter.unusedSimpArgs false

def standF (S : List (List Nat)) (p each odd : Nat) : Option (Int × List Nat) := match readF S ((p + odd * each : Nat) : Int) ((p + odd * each + each : Nat) : Int) with
  | none => none
  | some (b, f) => if f.seq = 1 ∧ f.era ≠ 0 ∧ f.era % 2 = (odd : Int) then some (f.era, b) else none
def TRes (B : Nat) (w' : World) (e : Ending) (R : Option (Int × List Nat)) : Prop := ∃ A' c', e = .returned (.tuple #[.int .i64 (R.getD (0, [])).1, .slice A' (R.getD (0, [])).2.length c', .bool R.isSome]) ∧ w'.ownsRow B 5 1 (.slice A' (R.getD (0, [])).2.length c') (R.getD (0, [])).2.length (by8 (R.getD (0, [])).2)
theorem TRes.no (B : Nat) (w' : World) {R : Option (Int × List Nat)} (h : R = none) : TRes B w' (.returned (.tuple #[.int .i64 0, .slice none 0 0, .bool false])) R := by
  subst h
  exact ⟨none, 0, rfl, own_nil _ _ _⟩
end Go.Proofs.Ytiggcpfmmgmncaa
end
section
namespace Go.Proofs.Ytiggcpfmmgmncaa
open Go.ChangeShapes Go.WideShapes Go.ChangeAt Go.RowKit
set_option linter.unusedVariables false
set_option linter.unusedSimpArgs false

theorem cut_rows {life era seq : Int} {b : List Nat} {R : List (List Nat)} (h : cutF life era seq b = (R, 0)) (ho : Oct b) : ∀ c ∈ R, Oct c ∧ c.length = 96 := by
  rcases cutF_ways life era seq b with ⟨n, hn, hb, hok, e⟩ | ⟨z, hz, e⟩
  · rw [h] at e
    injection e with e _
    subst e
    intro c hc
    obtain ⟨f, hf, rfl⟩ := List.mem_map.1 hc
    obtain ⟨j, hj, rfl⟩ := List.mem_map.1 hf
    have hjn := List.mem_range.1 hj
    have hok2 := (piece_ok hjn hb).trans hok
    have h10 := ((Fr.ok_iff _).1 hok2).2.2.2.2.2.2.2.2.2.2
    exact ⟨oct_sealed (Fr.body_oct hok2 (seg_oct ho _ _)), by rw [sealed_len, Fr.body_len h10]⟩
  · rw [h] at e
    injection e with _ e
    omega
theorem cutF_err {life era seq : Int} {b : List Nat} (h : (cutF life era seq b).2 ≠ 0) : (cutF life era seq b).2 = 6 ∨ (cutF life era seq b).2 = 2 := by
  rcases cutF_ways life era seq b with ⟨n, hn, hb, hok, e⟩ | ⟨z, hz, e⟩
  · rw [e] at h; exact absurd rfl h
  · rw [e]; exact hz
end Go.Proofs.Ytiggcpfmmgmncaa
end
section
namespace Go.Proofs.Ytiggcpfmmgmncaa
open Go.ChangeShapes Go.WideShapes Go.ChangeAt Go.RowKit
set_option linter.unusedVariables false
set_option linter.unusedSimpArgs false

theorem frB_zero : frB (List.replicate 96 0) = none := by decide +kernel
theorem frD_new (n : Nat) (i : Int) : frD (Dv.new n).S i = none := by
  unfold frD
  split
  · rename_i h
    have e : (Dv.new n).S.getD i.toNat [] = List.replicate 96 0 := by
      show (List.replicate n (List.replicate 96 0)).getD i.toNat [] = _
      have hl : (Dv.new n).S.length = n := by simp [Dv.new]
      rw [hl] at h
      rw [List.getD_eq_getElem?_getD, List.getElem?_replicate, if_pos (by omega)]; rfl
    rw [e, frB_zero]
  · rfl
theorem write_len (d : Dv) (p : Int) (cs : List (List Nat)) : (d.write p cs).1.S.length = d.S.length := by
  unfold Dv.write
  split
  · split
    · split
      · rfl
      · simp only [putK_len]
    · rfl
  · rfl
theorem prod_eta {α β : Type} {x : α × β} {b : β} (h : x.2 = b) : x = (x.1, b) := by
  cases x; subst h; rfl
end Go.Proofs.Ytiggcpfmmgmncaa
end
section
namespace Go.Proofs.Ytiggcpfmmgmncaa
open Go.ChangeShapes Go.WideShapes Go.ChangeAt Go.RowKit
set_option linter.unusedVariables false
set_option linter.unusedSimpArgs false

set_option maxRecDepth 100000 in
theorem live8_a : newestN (Dv.new 9).S 1 8 = 0 := by decide +kernel
set_option maxRecDepth 100000 in
theorem live8_b : scan (Dv.new 9).S 9 0 1 0 0 = ([], 1) := by decide +kernel
set_option maxRecDepth 100000 in
theorem live8_c : (cutF 1 0 ((0 + 1 : Nat) : Int) [97]).2 = 0 ∧ (cutF 1 0 ((0 + 1 : Nat) : Int) [97]).1.length = 1 := by decide +kernel
set_option maxRecDepth 100000 in
theorem live8_d : ((Dv.new 9).write 1 (cutF 1 0 ((0 + 1 : Nat) : Int) [97]).1).2 = 0 := by decide +kernel
set_option maxRecDepth 100000 in
theorem live8_e : newestN ((Dv.new 9).write 1 (cutF 1 0 ((0 + 1 : Nat) : Int) [97]).1).1.S 1 8 = 1 := by decide +kernel
set_option maxRecDepth 100000 in
theorem live8_f : scan ((Dv.new 9).write 1 (cutF 1 0 ((0 + 1 : Nat) : Int) [97]).1).1.S 9 0 1 0 0 = ([[97]], 2) := by decide +kernel
set_option maxRecDepth 100000 in
theorem live8_g : newestN ((Dv.new 9).write 1 (cutF 1 0 ((0 + 1 : Nat) : Int) [97]).1).1.S 0 9 = 1 := by decide +kernel
theorem live8_fact : ∃ (cs : List (List Nat)) (D : Dv), cutF 1 0 ((0 + 1 : Nat) : Int) [97] = (cs, 0) ∧ cs.length = 1 ∧ (Dv.new 9).write 1 cs = (D, 0) ∧ D.S.length = 9 ∧ newestN D.S 1 8 = 1 ∧ scan D.S 9 0 1 0 0 = ([[97]], 2) ∧ newestN D.S 0 9 = 1 :=
  ⟨_, _, prod_eta live8_c.1, live8_c.2, prod_eta live8_d, (write_len _ _ _).trans (by simp [Dv.new]), live8_e, live8_f, live8_g⟩
end Go.Proofs.Ytiggcpfmmgmncaa
end
