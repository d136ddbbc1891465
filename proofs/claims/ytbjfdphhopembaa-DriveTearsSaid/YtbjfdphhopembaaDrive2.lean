/-
  Layer 6, second part: renew, burn, New, Start, Fuse.
-/
import Derived.Test.YtbjfdphhopembaaDrive
namespace Go.Proofs.Ytbjfdphhopembaa
open Go.ChangeShapes Go.WideShapes Go.ChangeAt Go.RowKit
set_option linter.unusedVariables false
set_option linter.unusedSimpArgs false

def Dv.fresh (d : Dv) : Dv := { d with on := true, fused := false, spare := 0, keep := [] }
theorem flat_len {S : List (List Nat)} (h : ∀ s ∈ S, s.length = 96) : S.flatten.length = S.length * 96 := by
  induction S with
  | nil => rfl
  | cons s S ih =>
    rw [List.flatten_cons, List.length_append, h s (by simp), ih (fun x hx => h x (by simp [hx])), List.length_cons]; omega
set_option maxHeartbeats 1000000 in
set_option maxRecDepth 100000 in
theorem drenew_any {B b g kc : Nat} {K : Option Addr} {d : Dv} (w : World) (h : DrA B w b g K kc d) :
    Calls Try.prog 40 #[.pointer (some ⟨b, 0, none⟩)] w fun e w' => e = .returned (.tuple #[]) ∧ Chg2 b g w w' ∧ DrW B w' b g d.fresh := by
  obtain ⟨k0, k1, k2, k3, k4, k5⟩ := h.got
  have f0 := h.fz 0
  have f1 := h.fz 1
  have f2 := h.fz 2
  have f3 := h.fz 3
  have hlt := h.lt.1
  have H := Lib.hid h
  clear h
  go_enter Try.func40, Try.ntmps40
  go_wp2_with fail
  go_end0
  have h := H.out
  have hne := h.ne
  refine ⟨rfl, ((Chg2.set_b 0 _).trans ((Chg2.set_b 1 _).trans ((Chg2.set_b 2 _).trans (Chg2.set_b 3 _)))), none, 0, h.turn rfl ?_ ?_ (own_nil _ _ _) ⟨Int.le_refl 0, by show (0 : Int) ≤ 9223372036854775807; decide⟩ (Nat.zero_le _)⟩
  · have e := set_blk (i := 3) (.slice none 0 0) (set_blk (i := 2) (.int .i64 0) (set_blk (i := 1) (.bool false) (set_blk (i := 0) (.bool true) h.blk)))
    simpa [Dv.cells, Dv.fresh] using e
  · rw [set_far _ (fun e => hne e.symm), set_far _ (fun e => hne e.symm), set_far _ (fun e => hne e.symm), set_far _ (fun e => hne e.symm)]
/-- behind a write that begins: the power, and whether it goes off -/
def Dv.burnt (d : Dv) : Dv := if d.fused = true then (if 0 < d.spare then { d with spare := d.spare - 1 } else { d with on := false, fused := false }) else d
def Dv.torn (d : Dv) : Bool := d.fused && decide (d.spare ≤ 0)
set_option maxHeartbeats 1000000 in
set_option maxRecDepth 100000 in
theorem dburn_any {B b g kc : Nat} {K : Option Addr} {d : Dv} (w : World) (h : DrA B w b g K kc d) :
    Calls Try.prog 43 #[.pointer (some ⟨b, 0, none⟩)] w fun e w' => e = .returned (.bool d.torn) ∧ Chg2 b g w w' ∧ DrA B w' b g K kc d.burnt := by
  obtain ⟨k0, k1, k2, k3, k4, k5⟩ := h.got
  have f0 := h.fz 0
  have f1 := h.fz 1
  have f2 := h.fz 2
  have hlt := h.lt.1
  have hne := h.ne
  have hsp := h.sp
  obtain ⟨on, fused, spare, keep, S, writes⟩ := d
  have H := Lib.hid h
  simp only at hsp k0 k1 k2 k3 k4 k5
  clear h
  cases fused with
  | false =>
    go_enter Try.func43, Try.ntmps43
    go_wp2_with fail
    go_ret
    exact ⟨rfl, Chg2.refl _ _ _, H.out⟩
  | true =>
    by_cases hs : 0 < spare
    · have hw : IntKind.i64.wrap (spare - 1) = spare - 1 := by rw [IntKind.wrap_i64]; omega
      have HT : Hid (Dv.torn ⟨on, true, spare, keep, S, writes⟩ = false) := Lib.hid (by simp [Dv.torn]; omega)
      have HB : Hid (Dv.burnt ⟨on, true, spare, keep, S, writes⟩ = ⟨on, true, spare - 1, keep, S, writes⟩) := Lib.hid (by simp [Dv.burnt]; omega)
      go_enter Try.func43, Try.ntmps43
      go_wp2_with fail
      go_ret
      have h := H.out
      refine ⟨by rw [HT.out]; rfl, Chg2.set_b 2 _, ?_⟩
      rw [HB.out]
      refine h.turn (d' := ⟨on, true, spare - 1, keep, S, writes⟩) rfl ?_ (set_far _ (fun e => hne e.symm)) (own_far1 h.kp h.kb _) ⟨by simp only; omega, by simp only; omega⟩ h.kl
      have e := set_blk (i := 2) (.int .i64 (spare - 1)) h.blk
      simpa [Dv.cells] using e
    · have HT : Hid (Dv.torn ⟨on, true, spare, keep, S, writes⟩ = true) := Lib.hid (by simp [Dv.torn]; omega)
      have HB : Hid (Dv.burnt ⟨on, true, spare, keep, S, writes⟩ = ⟨false, false, spare, keep, S, writes⟩) := Lib.hid (by simp [Dv.burnt]; omega)
      go_enter Try.func43, Try.ntmps43
      go_wp2_with fail
      go_ret
      have h := H.out
      refine ⟨by rw [HT.out]; rfl, (Chg2.set_b 0 _).trans (Chg2.set_b 1 _), ?_⟩
      rw [HB.out]
      refine h.turn (d' := ⟨false, false, spare, keep, S, writes⟩) rfl ?_ (by rw [set_far _ (fun e => hne e.symm), set_far _ (fun e => hne e.symm)]) (own_far1 (own_far1 h.kp h.kb _) h.kb _) hsp h.kl
      have e := set_blk (i := 1) (.bool false) (set_blk (i := 0) (.bool false) h.blk)
      simpa [Dv.cells] using e
set_option maxHeartbeats 1000000 in
set_option maxRecDepth 100000 in
theorem dstart_any {B b g kc : Nat} {K : Option Addr} {d : Dv} (w : World) (h : DrA B w b g K kc d) :
    Calls Try.prog 20 #[.pointer (some ⟨b, 0, none⟩)] w fun e w' => e = .returned (.int .i64 0) ∧ Chg2 b g w w' ∧ DrW B w' b g d.fresh := by
  have HS := Lib.hid (dsize_any w h)
  have hlt := h.lt.1
  have HR := Lib.hid (fun V (hV : Below w.heap.size w V) => drenew_any V (h.below hV))
  have hn : (((d.S.length : Nat) : Int) == 0) = false := by have := h.len.1; simpa using (by omega : ((d.S.length : Nat) : Int) ≠ 0)
  generalize d.S.length = n at *
  clear h
  go_enter Try.func20, Try.ntmps20
  go_wp2_with fail
  refine HS.out.mono ?_
  rintro e w1 ⟨rfl, hb⟩
  go_wp2_with fail
  refine (HR.out _ hb).mono ?_
  rintro e w2 ⟨rfl, hc, hd⟩
  go_wp2_with fail
  go_ret
  exact ⟨rfl, (Chg2.of_below hb).trans hc, hd⟩
/-- what a fuse makes -/
def Dv.fuse (d : Dv) (n : Int) (keep : List Nt) : Dv × Int := if d.on = true then (if 0 ≤ n then { d with on := true, fused := true, spare := n, keep := keep } else d.fresh, 0) else (d, 9)
set_option maxHeartbeats 2000000 in
set_option maxRecDepth 100000 in
theorem dfuse_any {B b g kc : Nat} {K : Option Addr} {d : Dv} (n : Int) (A : Option Addr) (c : Nat) (l : List Nt) (w : World) (h : DrA B w b g K kc d) (hB : B ≤ w.heap.size) (hl : l.length ≤ 1000000) (hn : n ≤ 9223372036854775807) (hs : SlF w b g A (rc Nt.cells l)) :
    Calls Try.prog 13 #[.pointer (some ⟨b, 0, none⟩), .int .i64 n, .slice A l.length c] w fun e w' => e = .returned (.int .i64 (d.fuse n l).2) ∧ Chg2 b g w w' ∧ DrW B w' b g (d.fuse n l).1 := by
  have HRD := Lib.hid (dready_any w h)
  have HR := Lib.hid (fun V (hV : Below w.heap.size w V) => drenew_any V (h.below hV))
  have HW := Lib.hid (fun V (hV : Below w.heap.size w V) => h.below hV)
  have HSL := Lib.hid (fun V (hV : Chg2 b g w V) => (hs.chg hV).1)
  have HC := Lib.hid (fun V (hV : Sl V A (rc Nt.cells l)) => clone_nt A c l V hl hV)
  have HL := Lib.hid hl
  clear h hs hl
  by_cases ho : d.on = true
  · rw [if_pos ho] at HRD
    by_cases h0 : 0 ≤ n
    · have HE : Hid (d.fuse n l = ({ d with on := true, fused := true, spare := n, keep := l }, 0)) := Lib.hid (by rw [Dv.fuse, if_pos ho, if_pos h0])
      clear ho
      generalize hLN : l.length = LN at HC ⊢
      have HLN2 := Lib.hid hLN
      have HLN : Hid (l.length ≤ 1000000) := HL
      clear hLN
      go_enter Try.func13, Try.ntmps13
      go_wp2_with fail
      refine HRD.out.mono ?_
      rintro e w1 ⟨rfl, hb⟩
      go_wp2_with fail
      refine (HR.out _ hb).mono ?_
      rintro e w2 ⟨rfl, hc, K2, kc2, hd2⟩
      have hC2 := (Chg2.of_below hb).trans hc
      obtain ⟨k0, k1, k2, k3, k4, k5⟩ := hd2.got
      have f1 := hd2.fz 1
      have f2 := hd2.fz 2
      have f3 := hd2.fz 3
      have hlt := hd2.lt.1
      go_wp2_with fail
      refine (HC.out _ (HSL.out _ hC2)).mono ?_
      rintro e w3 ⟨⟨A3, c3, rfl, own3⟩, hb3⟩
      have hd3 := hd2.below hb3
      have hC3 := hC2.step hb3
      obtain ⟨k0, k1, k2, k3, k4, k5⟩ := hd3.got
      have f1 := hd3.fz 1
      have f2 := hd3.fz 2
      have f3 := hd3.fz 3
      have hlt := hd3.lt.1
      go_wp2_with fail
      go_ret
      have hne := hd3.ne
      have hxb := own_type own3 hd3.blk (by decide)
      rw [HE.out]
      refine ⟨rfl, ((hC3.trans (Chg2.set_b 1 _)).trans (Chg2.set_b 2 _)).trans (Chg2.set_b 3 _), A3, c3, hd3.turn (K' := A3) (kc' := c3) rfl ?_ ?_ ?_ ⟨h0, hn⟩ HLN.out⟩
      · have e := set_blk (i := 3) (.slice A3 LN c3) (set_blk (i := 2) (.int .i64 n) (set_blk (i := 1) (.bool true) hd3.blk))
        simpa [Dv.cells, Dv.fresh, HLN2.out] using e
      · rw [set_far _ (fun e => hne e.symm), set_far _ (fun e => hne e.symm), set_far _ (fun e => hne e.symm)]
      · have := own_far1 (own_far1 (own_far1 (own_base own3 (Nat.le_trans hB hC2.size)) (p := ⟨b, 1, none⟩) hxb (.bool true)) (p := ⟨b, 2, none⟩) hxb (.int .i64 n)) (p := ⟨b, 3, none⟩) hxb (.slice A3 LN c3)
        rw [show (l.length) = LN from HLN2.out]
        exact this
    · have HE : Hid (d.fuse n l = (d.fresh, 0)) := Lib.hid (by rw [Dv.fuse, if_pos ho, if_neg h0])
      clear ho
      generalize l.length = LN at *
      go_enter Try.func13, Try.ntmps13
      go_wp2_with fail
      refine HRD.out.mono ?_
      rintro e w1 ⟨rfl, hb⟩
      go_wp2_with fail
      refine (HR.out _ hb).mono ?_
      rintro e w2 ⟨rfl, hc, hd2⟩
      go_wp2_with fail
      go_ret
      rw [HE.out]
      exact ⟨rfl, (Chg2.of_below hb).trans hc, hd2⟩
  · have HE : Hid (d.fuse n l = (d, 9)) := Lib.hid (by rw [Dv.fuse, if_neg ho])
    rw [if_neg ho] at HRD
    clear ho
    generalize l.length = LN at *
    go_enter Try.func13, Try.ntmps13
    go_wp2_with fail
    refine HRD.out.mono ?_
    rintro e w1 ⟨rfl, hb⟩
    go_wp2_with fail
    go_ret
    rw [HE.out]
    exact ⟨rfl, Chg2.of_below hb, K, kc, HW.out _ hb⟩
end Go.Proofs.Ytbjfdphhopembaa
