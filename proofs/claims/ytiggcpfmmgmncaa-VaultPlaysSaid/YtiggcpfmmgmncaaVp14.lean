import Derived.Test.YtiggcpfmmgmncaaVp13
set_option maxHeartbeats 16000000
set_option maxRecDepth 100000
set_option linter.unusedVariables false
set_option linter.unusedSimpArgs false
namespace Go.Proofs.Ytiggcpfmmgmncaa
open Go.ChangeShapes Go.WideShapes Go.ChangeAt Go.RowKit
section
def Dv.fresh (d : Dv) : Dv := { d with on := true, fused := false, spare := 0, keep := [] }
theorem flat_len {S : List (List Nat)} (h : ∀ s ∈ S, s.length = 96) : S.flatten.length = S.length * 96 := by
  induction S with
  | nil => rfl
  | cons s S ih =>
    rw [List.flatten_cons, List.length_append, h s (by simp), ih (fun x hx => h x (by simp [hx])), List.length_cons]; omega
theorem drenew_any {B b g kc : Nat} {K : Option Addr} {d : Dv} (w : World) (h : DrA B w b g K kc d) :
    Calls Try.prog 48 #[.pointer (some ⟨b, 0, none⟩)] w fun e w' => e = .returned (.tuple #[]) ∧ Chg2 b g w w' ∧ DrW B w' b g d.fresh := by
  obtain ⟨k0, k1, k2, k3, k4, k5⟩ := h.got
  have f0 := h.fz 0
  have f1 := h.fz 1
  have f2 := h.fz 2
  have f3 := h.fz 3
  have hlt := h.lt.1
  have H := Lib.hid h
  clear h
  go_enter Try.func48, Try.ntmps48
  go_wp2_with fail
  go_end0
  have h := H.out
  have hne := h.ne
  refine ⟨rfl, ((Chg2.set_b 0 _).trans ((Chg2.set_b 1 _).trans ((Chg2.set_b 2 _).trans (Chg2.set_b 3 _)))), none, 0, h.turn rfl ?_ ?_ (own_nil _ _ _) ⟨Int.le_refl 0, by show (0 : Int) ≤ 9223372036854775807; decide⟩ (Nat.zero_le _)⟩
  · have e := set_blk (i := 3) (.slice none 0 0) (set_blk (i := 2) (.int .i64 0) (set_blk (i := 1) (.bool false) (set_blk (i := 0) (.bool true) h.blk)))
    simpa [Dv.cells, Dv.fresh] using e
  · rw [set_far _ (fun e => hne e.symm), set_far _ (fun e => hne e.symm), set_far _ (fun e => hne e.symm), set_far _ (fun e => hne e.symm)]
def Dv.burnt (d : Dv) : Dv := if d.fused = true then (if 0 < d.spare then { d with spare := d.spare - 1 } else { d with on := false, fused := false }) else d
def Dv.torn (d : Dv) : Bool := d.fused && decide (d.spare ≤ 0)
theorem dburn_any {B b g kc : Nat} {K : Option Addr} {d : Dv} (w : World) (h : DrA B w b g K kc d) :
    Calls Try.prog 82 #[.pointer (some ⟨b, 0, none⟩)] w fun e w' => e = .returned (.bool d.torn) ∧ Chg2 b g w w' ∧ DrA B w' b g K kc d.burnt := by
  obtain ⟨k0, k1, k2, k3, k4, k5⟩ := h.got
  have f0 := h.fz 0
  have f1 := h.fz 1
  have f2 := h.fz 2
  have hlt := h.lt.1
  have hne := h.ne
  have hsp := h.sp
  obtain ⟨on, fused, spare, keep, S, writes⟩ := d
  have H := Lib.hid h
  simp only at hsp k0 k1 k2 k3 k4 k5
  clear h
  cases fused with
  | false =>
    go_enter Try.func82, Try.ntmps82
    go_wp2_with fail
    go_ret
    exact ⟨rfl, Chg2.refl _ _ _, H.out⟩
  | true =>
    by_cases hs : 0 < spare
    · have hw : IntKind.i64.wrap (spare - 1) = spare - 1 := by rw [IntKind.wrap_i64]; omega
      have HT : Hid (Dv.torn ⟨on, true, spare, keep, S, writes⟩ = false) := Lib.hid (by simp [Dv.torn]; omega)
      have HB : Hid (Dv.burnt ⟨on, true, spare, keep, S, writes⟩ = ⟨on, true, spare - 1, keep, S, writes⟩) := Lib.hid (by simp [Dv.burnt]; omega)
      go_enter Try.func82, Try.ntmps82
      go_wp2_with fail
      go_ret
      have h := H.out
      refine ⟨by rw [HT.out]; rfl, Chg2.set_b 2 _, ?_⟩
      rw [HB.out]
      refine h.turn (d' := ⟨on, true, spare - 1, keep, S, writes⟩) rfl ?_ (set_far _ (fun e => hne e.symm)) (own_far1 h.kp h.kb _) ⟨by simp only; omega, by simp only; omega⟩ h.kl
      have e := set_blk (i := 2) (.int .i64 (spare - 1)) h.blk
      simpa [Dv.cells] using e
    · have HT : Hid (Dv.torn ⟨on, true, spare, keep, S, writes⟩ = true) := Lib.hid (by simp [Dv.torn]; omega)
      have HB : Hid (Dv.burnt ⟨on, true, spare, keep, S, writes⟩ = ⟨false, false, spare, keep, S, writes⟩) := Lib.hid (by simp [Dv.burnt]; omega)
      go_enter Try.func82, Try.ntmps82
      go_wp2_with fail
      go_ret
      have h := H.out
      refine ⟨by rw [HT.out]; rfl, (Chg2.set_b 0 _).trans (Chg2.set_b 1 _), ?_⟩
      rw [HB.out]
      refine h.turn (d' := ⟨false, false, spare, keep, S, writes⟩) rfl ?_ (by rw [set_far _ (fun e => hne e.symm), set_far _ (fun e => hne e.symm)]) (own_far1 (own_far1 h.kp h.kb _) h.kb _) hsp h.kl
      have e := set_blk (i := 1) (.bool false) (set_blk (i := 0) (.bool false) h.blk)
      simpa [Dv.cells] using e
theorem dstart_any {B b g kc : Nat} {K : Option Addr} {d : Dv} (w : World) (h : DrA B w b g K kc d) :
    Calls Try.prog 23 #[.pointer (some ⟨b, 0, none⟩)] w fun e w' => e = .returned (.int .i64 0) ∧ Chg2 b g w w' ∧ DrW B w' b g d.fresh := by
  have HS := Lib.hid (dsize_any w h)
  have hlt := h.lt.1
  have HR := Lib.hid (fun V (hV : Below w.heap.size w V) => drenew_any V (h.below hV))
  have hn : (((d.S.length : Nat) : Int) == 0) = false := by have := h.len.1; simpa using (by omega : ((d.S.length : Nat) : Int) ≠ 0)
  generalize d.S.length = n at *
  clear h
  go_enter Try.func23, Try.ntmps23
  go_wp2_with fail
  refine HS.out.mono ?_
  rintro e w1 ⟨rfl, hb⟩
  go_wp2_with fail
  refine (HR.out _ hb).mono ?_
  rintro e w2 ⟨rfl, hc, hd⟩
  go_wp2_with fail
  go_ret
  exact ⟨rfl, (Chg2.of_below hb).trans hc, hd⟩
def Dv.fuse (d : Dv) (n : Int) (keep : List Nt) : Dv × Int := if d.on = true then (if 0 ≤ n then { d with on := true, fused := true, spare := n, keep := keep } else d.fresh, 0) else (d, 9)
theorem dfuse_any {B b g kc : Nat} {K : Option Addr} {d : Dv} (n : Int) (A : Option Addr) (c : Nat) (l : List Nt) (w : World) (h : DrA B w b g K kc d) (hB : B ≤ w.heap.size) (hl : l.length ≤ 1000000) (hn : n ≤ 9223372036854775807) (hs : SlF w b g A (rc Nt.cells l)) :
    Calls Try.prog 20 #[.pointer (some ⟨b, 0, none⟩), .int .i64 n, .slice A l.length c] w fun e w' => e = .returned (.int .i64 (d.fuse n l).2) ∧ Chg2 b g w w' ∧ DrW B w' b g (d.fuse n l).1 := by
  have HRD := Lib.hid (dready_any w h)
  have HR := Lib.hid (fun V (hV : Below w.heap.size w V) => drenew_any V (h.below hV))
  have HW := Lib.hid (fun V (hV : Below w.heap.size w V) => h.below hV)
  have HSL := Lib.hid (fun V (hV : Chg2 b g w V) => (hs.chg hV).1)
  have HC := Lib.hid (fun V (hV : Sl V A (rc Nt.cells l)) => clone_nt A c l V hl hV)
  have HL := Lib.hid hl
  clear h hs hl
  by_cases ho : d.on = true
  · rw [if_pos ho] at HRD
    by_cases h0 : 0 ≤ n
    · have HE : Hid (d.fuse n l = ({ d with on := true, fused := true, spare := n, keep := l }, 0)) := Lib.hid (by rw [Dv.fuse, if_pos ho, if_pos h0])
      clear ho
      generalize hLN : l.length = LN at HC ⊢
      have HLN2 := Lib.hid hLN
      have HLN : Hid (l.length ≤ 1000000) := HL
      clear hLN
      go_enter Try.func20, Try.ntmps20
      go_wp2_with fail
      refine HRD.out.mono ?_
      rintro e w1 ⟨rfl, hb⟩
      go_wp2_with fail
      refine (HR.out _ hb).mono ?_
      rintro e w2 ⟨rfl, hc, K2, kc2, hd2⟩
      have hC2 := (Chg2.of_below hb).trans hc
      obtain ⟨k0, k1, k2, k3, k4, k5⟩ := hd2.got
      have f1 := hd2.fz 1
      have f2 := hd2.fz 2
      have f3 := hd2.fz 3
      have hlt := hd2.lt.1
      go_wp2_with fail
      refine (HC.out _ (HSL.out _ hC2)).mono ?_
      rintro e w3 ⟨⟨A3, c3, rfl, own3⟩, hb3⟩
      have hd3 := hd2.below hb3
      have hC3 := hC2.step hb3
      obtain ⟨k0, k1, k2, k3, k4, k5⟩ := hd3.got
      have f1 := hd3.fz 1
      have f2 := hd3.fz 2
      have f3 := hd3.fz 3
      have hlt := hd3.lt.1
      go_wp2_with fail
      go_ret
      have hne := hd3.ne
      have hxb := own_type own3 hd3.blk (by decide)
      rw [HE.out]
      refine ⟨rfl, ((hC3.trans (Chg2.set_b 1 _)).trans (Chg2.set_b 2 _)).trans (Chg2.set_b 3 _), A3, c3, hd3.turn (K' := A3) (kc' := c3) rfl ?_ ?_ ?_ ⟨h0, hn⟩ HLN.out⟩
      · have e := set_blk (i := 3) (.slice A3 LN c3) (set_blk (i := 2) (.int .i64 n) (set_blk (i := 1) (.bool true) hd3.blk))
        simpa [Dv.cells, Dv.fresh, HLN2.out] using e
      · rw [set_far _ (fun e => hne e.symm), set_far _ (fun e => hne e.symm), set_far _ (fun e => hne e.symm)]
      · have := own_far1 (own_far1 (own_far1 (own_base own3 (Nat.le_trans hB hC2.size)) (p := ⟨b, 1, none⟩) hxb (.bool true)) (p := ⟨b, 2, none⟩) hxb (.int .i64 n)) (p := ⟨b, 3, none⟩) hxb (.slice A3 LN c3)
        rw [show (l.length) = LN from HLN2.out]
        exact this
    · have HE : Hid (d.fuse n l = (d.fresh, 0)) := Lib.hid (by rw [Dv.fuse, if_pos ho, if_neg h0])
      clear ho
      generalize l.length = LN at *
      go_enter Try.func20, Try.ntmps20
      go_wp2_with fail
      refine HRD.out.mono ?_
      rintro e w1 ⟨rfl, hb⟩
      go_wp2_with fail
      refine (HR.out _ hb).mono ?_
      rintro e w2 ⟨rfl, hc, hd2⟩
      go_wp2_with fail
      go_ret
      rw [HE.out]
      exact ⟨rfl, (Chg2.of_below hb).trans hc, hd2⟩
  · have HE : Hid (d.fuse n l = (d, 9)) := Lib.hid (by rw [Dv.fuse, if_neg ho])
    rw [if_neg ho] at HRD
    clear ho
    generalize l.length = LN at *
    go_enter Try.func20, Try.ntmps20
    go_wp2_with fail
    refine HRD.out.mono ?_
    rintro e w1 ⟨rfl, hb⟩
    go_wp2_with fail
    go_ret
    rw [HE.out]
    exact ⟨rfl, Chg2.of_below hb, K, kc, HW.out _ hb⟩
end
section
theorem ED8 : Elem Try.prog 36 5 1 1 := Elem.mk' (z := .int .u8 0) (by kernel_rfl) (by kernel_rfl) (by decide) (by decide)
theorem EDR : Elem Try.prog 47 36 1 24 := Elem.mk' (z := .slice none 0 0) (by kernel_rfl) (by kernel_rfl) (by decide) (by decide)
theorem by8_splice (L : List Nat) (o : Nat) (c : List Nat) : splice (by8 L) o (by8 c) = by8 (splice L o c) := by
  simp [splice, by8, List.map_take, List.map_drop]
theorem splice_whole {α : Type} (L c : List α) (h : L.length = c.length) : splice L 0 c = c := by
  simp [splice, h]
theorem sec_at {S : List (List Nat)} (h : ∀ s ∈ S, s.length = 96) {k : Nat} (hk : k < S.length) {j : Nat} (hj : j < 96) : S.flatten[k * 96 + j]? = S[k][j]? := by
  induction S generalizing k with
  | nil => simp at hk
  | cons s S ih =>
    have hs := h s (by simp)
    cases k with
    | zero => rw [List.flatten_cons, List.getElem?_append_left (by omega)]; simp
    | succ k =>
      rw [List.flatten_cons, List.getElem?_append_right (by omega), hs, show (k + 1) * 96 + j - 96 = k * 96 + j by omega]
      exact ih (fun x hx => h x (by simp [hx])) (by simpa using hk)
theorem sec_set {S : List (List Nat)} (h : ∀ s ∈ S, s.length = 96) {k : Nat} (hk : k < S.length) {c : List Nat} (hc : c.length = 96) : splice S.flatten (k * 96) c = (S.set k c).flatten := by
  induction S generalizing k with
  | nil => simp at hk
  | cons s S ih =>
    have hs := h s (by simp)
    cases k with
    | zero =>
      rw [List.flatten_cons, List.set_cons_zero, List.flatten_cons]
      simp only [splice, Nat.zero_mul, List.take_zero, List.nil_append, Nat.zero_add]
      rw [hc, List.drop_append_of_le_length (by omega), List.drop_of_length_le (by omega), List.nil_append]
    | succ k =>
      have hi := ih (fun x hx => h x (by simp [hx])) (by simpa using hk)
      rw [List.flatten_cons, List.set_cons_succ, List.flatten_cons, ← hi]
      simp only [splice]
      rw [show (k + 1) * 96 = s.length + k * 96 by omega, List.take_length_add_append, show s.length + k * 96 + c.length = s.length + (k * 96 + c.length) by omega, List.drop_length_add_append, List.append_assoc]
theorem own_of_heap {w : World} {base m t size n : Nat} {xs : List Value} (h : w.heap[m]? = some (.cells xs.toArray t (0, 0))) (hl : xs.length = n * size) (hb : base ≤ m) (hm : n ≤ maxLen) : w.ownsRow base t size (.slice (some ⟨m, 0, none⟩) n n) n xs :=
  ⟨hl, .inr ⟨m, n, xs.toArray, rfl, hb, h, Nat.le_refl _, hm, by simpa using hl, by rw [← hl]; simp⟩⟩
theorem heap_of_own {w : World} {base m t size n : Nat} {xs : List Value} (h : w.ownsRow base t size (.slice (some ⟨m, 0, none⟩) n n) n xs) : w.heap[m]? = some (.cells xs.toArray t (0, 0)) := by
  obtain ⟨h1, h2⟩ := h
  rcases h2 with ⟨hv, _⟩ | ⟨g, cap, cur, hv, hk, hh, hnc, hcm, hcs, ht⟩
  · cases hv
  · injection hv with e1 e2 e3
    injection e1 with e1
    injection e1 with e1
    subst e1; subst e3
    have e : cur = xs.toArray := by
      apply Array.ext'
      rw [← ht, List.take_of_length_le (by simpa using (Nat.le_of_eq hcs))]
    rw [← e]; exact hh
theorem wpList_z8 {w : World} {ops : Array Oper} {rest : List Oper} {o : Oper} {a : Act} {Q : Exit → Act → World → Prop} (hg : o.guard = none) (l c : Operand) (hop : o.op = Op.makeSlice 36 l c)
    (n : Nat) {kl kc : IntKind} {L C : Int} (hl : a.eval l = .int kl L) (hc : a.eval c = .int kc C) (hL : L = (n : Int)) (hC : C = (n : Int)) (hn : n ≤ 1000000)
    {base : Nat} (b4 : base ≤ w.heap.size)
    (h : ∀ w', w'.ownsRow base 5 1 (.slice (some ⟨w.heap.size, 0, none⟩) n n) n (by8 (List.replicate n 0)) → Below w.heap.size w w' → wpList Try.prog ops Q rest (a.put o.dst (.slice (some ⟨w.heap.size, 0, none⟩) n n)) w') :
    wpList Try.prog ops Q (o :: rest) a w := by
  obtain ⟨i, hi, hz, hsize, hby⟩ := info_parts (show (Try.prog.info? 5).map (fun i => (i.zero, i.size, i.bytes)) = some (some (.int .u8 0), 1, 1) by kernel_rfl)
  refine wpList_make_full w hg l c _ hop base _ i _ 1 ED8.und hi hz hsize kl kc L C n hl hc hL hC (by rw [hby]; omega) (by unfold maxLen; omega) b4 fun w' h1 h2 => h w' ?_ (below_of_grown h2 (Nat.le_refl _) (by simp))
  have e : (madeCells (Value.int .u8 0).cells (n * 1)).toList = by8 (List.replicate n 0) := by
    apply List.ext_getElem
    · simp [by8, madeCells]
    · intro j h1 h2
      simp [by8, madeCells, Value.cells, Nat.mod_one]
  rwa [e] at h1
theorem made_zeros {N : Nat} (h0 : 0 < N) {zs : Array Value} (hz : zs = (List.replicate N (Value.int .u8 0)).toArray) (m : Nat) : (madeCells zs m).toList = by8 (List.replicate m 0) := by
  subst hz
  apply List.ext_getElem
  · simp [by8, madeCells]
  · intro j h1 h2
    have hm : j % N < N := Nat.mod_lt _ h0
    simp only [by8, madeCells, Array.toList_map, List.getElem_map, Array.toList_range, List.getElem_range]
    rw [show (List.replicate N (Value.int .u8 0)).toArray.size = N by simp, getElem!_pos _ _ (by simpa using hm)]
    simp [List.getElem_replicate]
theorem run_copy8 (w : World) (g o dLen dCap : Nat) (a : Addr) (sLen sCap : Nat) (L c : List Nat) (t : TypeId) (hg : w.heap[g]? = some (.cells (by8 L).toArray t (0, 0))) (hn : c.length = Nat.min sLen dLen)
    (hsrc : ∀ j v, (by8 c)[j]? = some v → w.cell? (a.add j) = some v) (hfit : o + c.length ≤ L.length) :
    (Builtin.copy_ #[36, 36] 3 #[.slice (some ⟨g, o, none⟩) dLen dCap, .slice (some a) sLen sCap]).run Try.prog w = .ok (goInt (c.length)) (w.setRow g (by8 (splice L o c)).toArray) := by
  have h := run_copyN (P := Try.prog) w 36 36 3 5 1 g o dLen dCap a sLen sCap (by8 L).toArray t (by8 c) ED8.und (by kernel_rfl) hg (by rw [by8_length, hn, Nat.mul_one]) hsrc (by simpa [by8_length] using hfit) (by8_one _)
  have e : (by8 L).toArray.toList.take o ++ by8 c ++ (by8 L).toArray.toList.drop (o + (by8 c).length) = by8 (splice L o c) := by
    rw [← by8_splice]
    simp only [splice, List.append_assoc]
  rw [e, ← hn] at h
  exact h
theorem wpList_zsec {w : World} {ops : Array Oper} {rest : List Oper} {o : Oper} {a : Act} {Q : Exit → Act → World → Prop} (hg : o.guard = none) (l c : Operand) (hop : o.op = Op.makeSlice 69 l c)
    (n : Nat) {kl kc : IntKind} {L C : Int} (hl : a.eval l = .int kl L) (hc : a.eval c = .int kc C) (hL : L = (n : Int)) (hC : C = (n : Int)) (hn : n ≤ 1000000)
    (h : ∀ w', w'.heap[w.heap.size]? = some (.cells (by8 (List.replicate (n * 96) 0)).toArray 142 (0, 0)) → Below w.heap.size w w' → wpList Try.prog ops Q rest (a.put o.dst (.slice (some ⟨w.heap.size, 0, none⟩) n n)) w') :
    wpList Try.prog ops Q (o :: rest) a w := by
  obtain ⟨i, hi, hz, hsize, hby⟩ := info_parts (show (Try.prog.info? 142).map (fun i => (i.zero, i.size, i.bytes)) = some (some (.agg (List.replicate 96 (Value.int .u8 0)).toArray), 96, 96) by kernel_rfl)
  refine wpList_make_full w hg l c _ hop w.heap.size _ i _ 96 (show Try.prog.underlying 69 = some (.slice 142) by kernel_rfl) hi hz hsize kl kc L C n hl hc hL hC (by rw [hby]; omega) (by unfold maxLen; omega) (Nat.le_refl _) fun w' h1 h2 => h w' ?_ (below_of_grown h2 (Nat.le_refl _) (by simp))
  have e := made_zeros (by decide) (show (Value.agg (List.replicate 96 (Value.int .u8 0)).toArray).cells = (List.replicate 96 (Value.int .u8 0)).toArray by kernel_rfl) (n * 96)
  have := heap_of_own h1
  rw [e] at this
  exact this
theorem dnew_any (n : Nat) (w : World) (h1 : 1 ≤ n) (h2 : n ≤ 2048) :
    Calls Try.prog 13 #[.int .i64 n] w fun e w' => ∃ b g, e = .returned (.tuple #[.pointer (some ⟨b, 0, none⟩), .int .i64 0]) ∧ DrW w.heap.size w' b g (Dv.new n) ∧ Below w.heap.size w w' := by
  have h3 : (1 : Int) ≤ (n : Int) := by omega
  have h4 : (n : Int) ≤ 2048 := by omega
  have HN := Lib.hid h1
  have HN2 := Lib.hid h2
  go_enter Try.func13, Try.ntmps13
  go_wp2_with (first
    | (at_make; refine wpList_zsec rfl (.tmp 11) (.tmp 11) rfl n rfl rfl rfl rfl (by omega) ?_; intro w1 hr1 hb1)
    | fail)
  have hlt1 : w.heap.size < w1.heap.size := (Array.getElem?_eq_some_iff.1 hr1).1
  have hd0 : DrA w.heap.size (w1.alloc (.cells #[.bool false, .bool false, .int .i64 0, .slice none 0 0, .slice (some ⟨w.heap.size, 0, none⟩) n n, .int .i64 0] 71)) w1.heap.size w.heap.size none 0 ⟨false, false, 0, [], List.replicate n (List.replicate 96 0), 0⟩ := by
    refine ⟨?_, ?_, own_nil _ _ _, ⟨by omega, Nat.le_refl _⟩, fun s hs => by rw [(List.mem_replicate.1 hs).2]; simp, fun s hs x hx => by rw [(List.mem_replicate.1 hs).2] at hx; rw [(List.mem_replicate.1 hx).2]; decide, by simp only [List.length_replicate]; omega, ⟨Int.le_refl 0, by show (0 : Int) ≤ 9223372036854775807; decide⟩, Nat.zero_le _⟩
    · rw [heap_alloc_new]
      simp [Dv.cells]
    · rw [Below.heap_alloc _ _ _ hlt1, hr1, List.flatten_replicate_replicate]
  have hb0 := hb1.trans (Below.alloc (Below.refl w.heap.size w1) (Nat.le_of_lt hlt1) (.cells #[.bool false, .bool false, .int .i64 0, .slice none 0 0, .slice (some ⟨w.heap.size, 0, none⟩) n n, .int .i64 0] 71))
  have HR := Lib.hid (drenew_any _ hd0)
  have HB0 := Lib.hid hb0
  have hsz : w.heap.size ≤ (w1.alloc (.cells #[.bool false, .bool false, .int .i64 0, .slice none 0 0, .slice (some ⟨w.heap.size, 0, none⟩) n n, .int .i64 0] 71)).heap.size := hb0.size
  have HSZ := Lib.hid hsz
  have hle : w.heap.size ≤ w1.heap.size := hb1.size
  clear hd0 hb0 hr1 hsz hb1
  refine HR.out.mono ?_
  rintro e w2 ⟨rfl, hc, hd⟩
  go_wp2_with fail
  go_ret2
  exact ⟨w1.heap.size, w.heap.size, rfl, hd, HB0.out.trans (hc.below HSZ.out hle (Nat.le_refl _))⟩
theorem dread_ok {B b g kc : Nat} {K : Option Addr} {d : Dv} (k : Nat) (w : World) (h : DrA B w b g K kc d) (hk : k < d.S.length) :
    Calls Try.prog 91 #[.pointer (some ⟨b, 0, none⟩), .int .i64 k] w fun e w' => (∃ m, e = .returned (.tuple #[.slice (some ⟨m, 0, none⟩) 96 96, .int .i64 0]) ∧ w'.ownsRow w.heap.size 5 1 (.slice (some ⟨m, 0, none⟩) 96 96) 96 (by8 d.S[k])) ∧ Below w.heap.size w w' := by
  have HS := Lib.hid (fun V (hV : Below w.heap.size w V) => dsize_any V (h.below hV))
  have HD := Lib.hid (fun V (hV : Below w.heap.size w V) => h.below hV)
  have hq : (((d.S.length : Nat) : Int) == 0) = false := by have := h.len.1; simpa using (by omega : ((d.S.length : Nat) : Int) ≠ 0)
  have H9 := Lib.hid (h.s96 _ (List.getElem_mem hk))
  have HSE := Lib.hid (fun j (hj : j < 96) => sec_at h.s96 hk hj)
  have HFL := Lib.hid (flat_len h.s96)
  have hk1 : (k : Int) < ((d.S.length : Nat) : Int) := by omega
  have hk0 : (0 : Int) ≤ (k : Int) := by omega
  obtain ⟨X, hX⟩ : ∃ X, d.S[k] = X := ⟨_, rfl⟩
  rw [hX] at HSE H9 ⊢
  obtain ⟨F, hF⟩ : ∃ F, d.S.flatten = F := ⟨_, rfl⟩
  obtain ⟨m, hm⟩ : ∃ m, d.S.length = m := ⟨_, rfl⟩
  have HG := Lib.hid (fun V (hV : Below w.heap.size w V) => (h.below hV).got.2.2.2.2.1)
  have HRW := Lib.hid (fun V (hV : Below w.heap.size w V) => (h.below hV).row)
  rw [hF] at HSE HFL HRW
  rw [hm] at HS hq hk1 HFL HG hk
  have hlt := h.lt.1
  have HLT := Lib.hid h.lt.2
  have HK := Lib.hid hk
  clear h HD hX hF hm hk
  go_enter Try.func91, Try.ntmps91
  go_wp2_with fail
  refine (HS.out _ (Below.refl _ _)).mono ?_
  rintro e w1 ⟨rfl, hb⟩
  go_wp2_with fail
  refine (HS.out _ hb).mono ?_
  rintro e w2 ⟨rfl, hb2⟩
  have hB := since_step hb hb2
  clear hb hb2
  go_wp2_with (first
    | (at_make; refine wpList_z8 rfl (.const (.int .i64 96)) (.const (.int .i64 96)) rfl 96 rfl rfl rfl rfl (by omega) (Nat.le_refl _) ?_; intro w3 own3 hb3; have hB3 := since_step hB hb3; have k4 := HG.out _ hB3; have hlt3 : b < w3.heap.size := Nat.lt_of_lt_of_le hlt hB3.size)
    | fail)
  have hr3 := HRW.out _ hB3
  have hcp := run_copy8 w3 w2.heap.size 0 96 96 ⟨g, k * 96, none⟩ 96 96 (List.replicate 96 0) X 5 (heap_of_own own3) (by rw [H9.out]; rfl) (fun j v hj => by
    have hj9 : j < 96 := by
      rcases Nat.lt_or_ge j 96 with h | h
      · exact h
      · rw [List.getElem?_eq_none (by rw [by8_length, H9.out]; exact h)] at hj; cases hj
    rw [addr_add, cell_of_row w3 g _ _ _ (0, 0) hr3]
    have e := HSE.out j hj9
    simp only [by8, List.getElem?_map] at hj
    simp [by8, List.getElem?_map, e, hj]) (by rw [H9.out]; simp)
  rw [H9.out, splice_whole _ _ (by rw [H9.out]; simp)] at hcp
  have hg4 := setRow_heap w3 w2.heap.size _ (by8 X).toArray 5 (0, 0) (heap_of_own own3)
  have hb4 := below_setRow hB3 hB.size (by8 X).toArray
  have hown := own_of_heap (base := w.heap.size) (size := 1) (n := 96) hg4 (by rw [by8_length, H9.out]) hB.size (by unfold maxLen; omega)
  clear hg4 hr3
  generalize w3.setRow w2.heap.size _ = w4 at hcp hb4 hown
  have HR := Lib.hid hcp
  clear hcp
  rw [HR.out, Result.andThen_ok, Oper.upon_value]
  go_wp2_with fail
  go_ret2
  exact ⟨⟨w2.heap.size, rfl, hown⟩, hb4⟩
end
section
def fitsF (m : Nat) (p : Int) (cs : List (List Nat)) : Bool := cs.all (fun c => c.length == 96) && (decide (0 ≤ p) && decide (p ≤ (m : Int) - (cs.length : Int)))
theorem fitsF_bad {m : Nat} {p : Int} {cs : List (List Nat)} {k : Nat} (hk : k < cs.length) (h : cs[k].length ≠ 96) : fitsF m p cs = false := by
  unfold fitsF
  rw [Bool.and_eq_false_iff]
  left
  rw [List.all_eq_false]
  exact ⟨cs[k], List.getElem_mem hk, by simpa using h⟩
theorem fitsF_good {m : Nat} {p : Int} {cs : List (List Nat)} (h : ∀ k, (hk : k < cs.length) → cs[k].length = 96) : fitsF m p cs = (decide (0 ≤ p) && decide (p ≤ (m : Int) - (cs.length : Int))) := by
  unfold fitsF
  have e : cs.all (fun c => c.length == 96) = true := by
    rw [List.all_eq_true]
    intro x hx
    obtain ⟨k, hk, rfl⟩ := List.getElem_of_mem hx
    simpa using h k hk
  rw [e, Bool.true_and]
theorem fitsF_true {m : Nat} {p : Int} {cs : List (List Nat)} (h : fitsF m p cs = true) : (∀ c ∈ cs, c.length = 96) ∧ 0 ≤ p ∧ p ≤ (m : Int) - (cs.length : Int) := by
  unfold fitsF at h
  simpa [Bool.and_eq_true, List.all_eq_true] using h
theorem dfits_any {B b g kc : Nat} {K : Option Addr} {d : Dv} (p : Int) (A : Option Addr) (c : Nat) (S : List (RowS Nat)) (w : World) (h : DrA B w b g K kc d) (hl : S.length ≤ 1000000) (hs : Sl w A (rc RowS.cells S)) :
    Calls Try.prog 81 #[.pointer (some ⟨b, 0, none⟩), .int .i64 p, .slice A S.length c] w fun e w' => e = .returned (.bool (fitsF d.S.length p (S.map RowS.l))) ∧ Below w.heap.size w w' := by
  have HS := Lib.hid (fun V (hV : Below w.heap.size w V) => dsize_any V (h.below hV))
  have hm := h.len.2
  generalize d.S.length = m at *
  clear h
  have HBAD := Lib.hid (fun k (hk : k < S.length) (h9 : S[k].l.length ≠ 96) => fitsF_bad (m := m) (p := p) (cs := S.map RowS.l) (k := k) (by simpa using hk) (by simpa using h9))
  have HGD := Lib.hid (fun (h9 : ∀ k, (hk : k < S.length) → S[k].l.length = 96) => fitsF_good (m := m) (p := p) (cs := S.map RowS.l) (fun k hk => by simpa using h9 k (by simpa using hk)))
  rw [List.length_map] at HGD
  generalize fitsF m p (S.map RowS.l) = R at *
  go_enter Try.func81, Try.ntmps81
  go_wp2_with fail
  go_loopw [11] (fun i wr => ∃ k : Nat, k ≤ S.length ∧ i = .int .i64 k ∧ (∀ j, (hj : j < S.length) → j < k → S[j].l.length = 96) ∧ Below w.heap.size w wr) (fun i _ => S.length - (intOf i).toNat)
  case atStart => exact ⟨0, by omega, rfl, fun j hj h => absurd h (by omega), Below.refl _ _⟩
  case round =>
    obtain ⟨k, hk, rfl, hno, hB⟩ := hrel
    have HNO := Lib.hid hno
    clear hno
    by_cases hlt : k < S.length
    · obtain ⟨bb, o, rfl, hbw, hg⟩ := (hs.below hB).rowS hlt
      have hlk : (k : Int) < (S.length : Int) := by omega
      have hgk : (0 : Int) ≤ (k : Int) := by omega
      have hbd := HBAD.out k hlt
      have HL9 := Lib.hid (fun (h9 : S[k].l.length = 96) => (fun j (hj : j < S.length) (hjk : j < k + 1) => by
        rcases Nat.lt_or_ge j k with h | h
        · exact HNO.out j hj h
        · obtain rfl : j = k := by omega
          exact h9 : ∀ j, (hj : j < S.length) → j < k + 1 → S[j].l.length = 96))
      have HBD := Lib.hid hbd
      clear hbd
      generalize S[k].l.length = z at *
      by_cases h9 : z = 96
      · have h9b : ((z : Int) != 96) = false := by rw [h9]; rfl
        have h10 := HL9.out h9
        have H10 := Lib.hid h10
        clear h9 h10 HL9 HBD
        go_wp2_with fail
        go_roundw
        case rel => exact ⟨k + 1, by omega, by go_num, H10.out, hB⟩
        case measure => simp [intOf]; omega
      · have h9b : ((z : Int) != 96) = true := by simpa using (by omega : (z : Int) ≠ 96)
        have H10 := Lib.hid (HBD.out h9)
        clear h9 HL9 HBD
        go_wp2_with fail
        go_ret
        exact ⟨retB H10.out.symm, hB⟩
    · obtain rfl : k = S.length := by omega
      have hgd := HGD.out fun j hj => HNO.out j hj hj
      have HGD2 := Lib.hid hgd
      clear hgd HGD HBAD HNO
      have hw : IntKind.i64.wrap ((m : Int) - (S.length : Int)) = (m : Int) - (S.length : Int) := by rw [IntKind.wrap_i64]; omega
      by_cases h1 : 0 ≤ p
      · go_wp2_with fail
        refine (HS.out _ hB).mono ?_
        rintro e w1 ⟨rfl, hb⟩
        have hB1 := since_step hB hb
        go_wp2_with fail
        go_ret
        exact ⟨retB (by rw [HGD2.out, decide_eq_true h1]; rfl), hB1⟩
      · go_wp2_with fail
        go_ret
        exact ⟨retB (by rw [HGD2.out, decide_eq_false (show ¬ 0 ≤ p by omega)]; rfl), hB⟩
end
end Go.Proofs.Ytiggcpfmmgmncaa
