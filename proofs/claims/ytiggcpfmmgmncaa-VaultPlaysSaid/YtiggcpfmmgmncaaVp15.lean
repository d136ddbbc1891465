import Derived.Test.YtiggcpfmmgmncaaVp14
import Derived.Test.YtiggcpfmmgmncaaVp01
set_option maxHeartbeats 16000000
set_option maxRecDepth 100000
set_option linter.unusedVariables false
set_option linter.unusedSimpArgs false
namespace Go.Proofs.Ytiggcpfmmgmncaa
open Go.ChangeShapes Go.WideShapes Go.ChangeAt Go.RowKit
section
def putK (torn : Bool) (keep : List Nt) (p : Nat) (cs : List (List Nat)) : Nat → List (List Nat) → List (List Nat)
  | 0, S => S
  | k + 1, S => if (!torn || inL k keep) = true then (putK torn keep p cs k S).set (p + k) (cs.getD k []) else putK torn keep p cs k S
def Dv.write (d : Dv) (p : Int) (cs : List (List Nat)) : Dv × Int :=
  if d.on = true then
    if fitsF d.S.length p cs = true then
      if cs.length = 0 then (d, 0)
      else ({ d.burnt with S := putK d.torn d.keep p.toNat cs cs.length d.S, writes := wrap64 (d.writes + 1) }, if d.torn = true then 9 else 0)
    else (d, 2)
  else (d, 9)
theorem putK_len {torn : Bool} {keep : List Nt} {p : Nat} {cs S : List (List Nat)} (k : Nat) : (putK torn keep p cs k S).length = S.length := by
  induction k with
  | zero => rfl
  | succ k ih => rw [putK]; split <;> simp [ih]
theorem mem_set_or {α : Type} {l : List α} {i : Nat} {a x : α} (h : x ∈ l.set i a) : x ∈ l ∨ x = a := by
  rcases List.mem_or_eq_of_mem_set h with h | h
  · exact .inl h
  · exact .inr h
theorem DrA.put {B b g kc : Nat} {w : World} {K : Option Addr} {d : Dv} (h : DrA B w b g K kc d) {q : Nat} (hq : q < d.S.length) {c : List Nat} (hc : c.length = 96) (ho : Oct c) :
    DrA B (w.setRow g (by8 (splice d.S.flatten (q * 96) c)).toArray) b g K kc { d with S := d.S.set q c } := by
  have hne := h.ne
  have hkg := h.kg
  refine ⟨?_, ?_, ?_, h.ge, ?_, ?_, by simpa using h.len, h.sp, h.kl⟩
  · rw [setRow_other _ _ _ _ hne, h.blk]
    simp [Dv.cells]
  · rw [setRow_heap _ _ _ _ _ _ h.row, sec_set h.s96 hq hc]
  · obtain ⟨h1, h2⟩ := h.kp
    refine ⟨h1, ?_⟩
    rcases h2 with h2 | ⟨k, cap, cur, hv, hk, hh, hr⟩
    · exact .inl h2
    · refine .inr ⟨k, cap, cur, hv, hk, ?_, hr⟩
      rw [setRow_other _ _ _ _ (fun e => hkg (by rw [hv, e]; rfl))]
      exact hh
  · intro s hs
    rcases mem_set_or hs with h1 | h1
    · exact h.s96 s h1
    · rw [h1]; exact hc
  · intro s hs
    rcases mem_set_or hs with h1 | h1
    · exact h.oct s h1
    · rw [h1]; exact ho
theorem burnt_S (d : Dv) : d.burnt.S = d.S := by
  unfold Dv.burnt
  split
  · split <;> rfl
  · rfl
theorem burnt_keep (d : Dv) : d.burnt.keep = d.keep := by
  unfold Dv.burnt
  split
  · split <;> rfl
  · rfl
theorem burnt_writes (d : Dv) (z : Int) : Dv.burnt { d with writes := z } = { d.burnt with writes := z } := by
  unfold Dv.burnt
  simp only
  split
  · split <;> rfl
  · rfl
theorem chg2_setRow {b g : Nat} {w : World} (cs : Array Value) : Chg2 b g w (w.setRow g cs) := ⟨rfl, rfl, rfl, by simp [World.setRow], fun k _ _ hk => setRow_other w g k cs hk⟩
theorem dwrite_off {B b g kc : Nat} {K : Option Addr} {d : Dv} (p : Int) (A : Option Addr) (n c : Nat) (w : World) (h : DrA B w b g K kc d) (ho : d.on = false) :
    Calls Try.prog 56 #[.pointer (some ⟨b, 0, none⟩), .int .i64 p, .slice A n c] w fun e w' => e = .returned (.int .i64 9) ∧ Below w.heap.size w w' := by
  have HR := Lib.hid (dready_any w h)
  rw [ho] at HR
  clear h ho
  go_enter Try.func56, Try.ntmps56
  go_wp2_with fail
  refine HR.out.mono ?_
  rintro e w1 ⟨rfl, hb⟩
  go_wp2_with fail
  go_ret
  exact ⟨rfl, hb⟩
theorem dwrite_no {B b g kc : Nat} {K : Option Addr} {d : Dv} (p : Int) (A : Option Addr) (c : Nat) (R : List (RowS Nat)) (w : World) (h : DrA B w b g K kc d) (ho : d.on = true) (hl : R.length ≤ 1000000) (hs : Sl w A (rc RowS.cells R)) (hf : fitsF d.S.length p (R.map RowS.l) = false ∨ R.length = 0) :
    Calls Try.prog 56 #[.pointer (some ⟨b, 0, none⟩), .int .i64 p, .slice A R.length c] w fun e w' => e = .returned (.int .i64 (if fitsF d.S.length p (R.map RowS.l) = true then 0 else 2)) ∧ Below w.heap.size w w' := by
  have HR := Lib.hid (dready_any w h)
  have HF := Lib.hid (fun V (hV : Below w.heap.size w V) => dfits_any p A c R V (h.below hV) hl (hs.below hV))
  rw [ho] at HR
  clear h ho hl hs
  generalize fitsF d.S.length p (R.map RowS.l) = F at *
  generalize R.length = n at *
  cases F with
  | false =>
    clear hf
    go_enter Try.func56, Try.ntmps56
    go_wp2_with fail
    refine HR.out.mono ?_
    rintro e w1 ⟨rfl, hb⟩
    go_wp2_with fail
    refine (HF.out _ hb).mono ?_
    rintro e w2 ⟨rfl, hb2⟩
    have hB := since_step hb hb2
    go_wp2_with fail
    go_ret
    exact ⟨rfl, hB⟩
  | true =>
    obtain rfl : n = 0 := by
      rcases hf with h | h
      · cases h
      · exact h
    clear hf
    go_enter Try.func56, Try.ntmps56
    go_wp2_with fail
    refine HR.out.mono ?_
    rintro e w1 ⟨rfl, hb⟩
    go_wp2_with fail
    refine (HF.out _ hb).mono ?_
    rintro e w2 ⟨rfl, hb2⟩
    have hB := since_step hb hb2
    go_wp2_with fail
    go_ret
    exact ⟨rfl, hB⟩
theorem dwrite_okF {B b g kc : Nat} {K : Option Addr} {d : Dv} (p : Int) (A : Option Addr) (c : Nat) (R : List (RowS Nat)) (w : World) (h : DrA B w b g K kc d) (ho : d.on = true) (hl : R.length ≤ 1000000) (hs : SlF w b g A (rc RowS.cells R))
    (hr : ∀ r ∈ R, SlF w b g r.A (by8 r.l) ∧ Oct r.l) (hf : fitsF d.S.length p (R.map RowS.l) = true) (h0 : 0 < R.length) (hT : d.torn = false) :
    Calls Try.prog 56 #[.pointer (some ⟨b, 0, none⟩), .int .i64 p, .slice A R.length c] w fun e w' => e = .returned (.int .i64 0) ∧ Chg2 b g w w' ∧
      DrA B w' b g K kc { d.burnt with S := putK false d.keep p.toNat (R.map RowS.l) R.length d.S, writes := wrap64 (d.writes + 1) } := by
  have HR := Lib.hid (dready_any w h)
  have HF := Lib.hid (fun V (hV : Below w.heap.size w V) => dfits_any p A c R V (h.below hV) hl (hs.1.below hV))
  rw [ho] at HR
  rw [hf] at HF
  have hff := fitsF_true hf
  rw [List.length_map] at hff
  obtain ⟨h96, hp0, hp1⟩ := hff
  obtain ⟨q, rfl⟩ : ∃ q : Nat, p = (q : Int) := ⟨p.toNat, by omega⟩
  rw [Int.toNat_natCast]
  have HD := Lib.hid (fun V (hV : Below w.heap.size w V) => h.below hV)
  have HS := Lib.hid (fun V (hV : Chg2 b g w V) => hs.chg hV)
  have HROW := Lib.hid (fun V (hV : Chg2 b g w V) k (hk : k < R.length) => ((hr _ (List.getElem_mem hk)).1.chg hV))
  have H96 := Lib.hid (fun k (hk : k < R.length) => h96 R[k].l (List.mem_map.2 ⟨_, List.getElem_mem hk, rfl⟩))
  have HOC := Lib.hid (fun k (hk : k < R.length) => (hr _ (List.getElem_mem hk)).2)
  have HQ := Lib.hid (show q + R.length ≤ d.S.length by omega)
  have hln : ((R.length : Int) == 0) = false := by simpa using (by omega : (R.length : Int) ≠ 0)
  have HLN := Lib.hid hl
  have HT := Lib.hid hT
  clear hT
  have hSl := h.len.2
  clear hs hr hf ho hp0 hp1 h96 hl h0
  go_enter Try.func56, Try.ntmps56
  go_wp2_with fail
  refine HR.out.mono ?_
  rintro e w1 ⟨rfl, hb⟩
  go_wp2_with fail
  refine (HF.out _ hb).mono ?_
  rintro e w2 ⟨rfl, hb2⟩
  have hB := since_step hb hb2
  have hd2 := HD.out _ hB
  obtain ⟨k0, k1, k2, k3, k4, k5⟩ := hd2.got
  have f5 := hd2.fz 5
  have hlt := hd2.lt.1
  clear hb hb2 h
  go_wp2_with fail
  have hd3 : DrA B (w2.setCell ⟨b, 5, none⟩ (.int .i64 (wrap64 (d.writes + 1)))) b g K kc { d with writes := wrap64 (d.writes + 1) } := by
    refine hd2.turn rfl ?_ (set_far _ (fun e => hd2.ne e.symm)) (own_far1 hd2.kp hd2.kb _) hd2.sp hd2.kl
    have e := set_blk (i := 5) (.int .i64 (wrap64 (d.writes + 1))) hd2.blk
    simpa [Dv.cells] using e
  have hC3 : Chg2 b g w (w2.setCell ⟨b, 5, none⟩ (.int .i64 (wrap64 (d.writes + 1)))) := (Chg2.of_below hB).trans (Chg2.set_b 5 _)
  clear k0 k1 k2 k3 k4 k5 f5 hd2 hB
  generalize w2.setCell ⟨b, 5, none⟩ (.int .i64 (wrap64 (d.writes + 1))) = w3 at *
  have HBU := Lib.hid (dburn_any w3 hd3)
  refine HBU.out.mono ?_
  rintro e w4 ⟨rfl, hc4, hd4⟩
  have hC4 := hC3.trans hc4
  rw [show Dv.torn { d with writes := wrap64 (d.writes + 1) } = d.torn from rfl, HT.out]
  have e4 := burnt_writes d (wrap64 (d.writes + 1))
  rw [e4] at hd4
  have hS4 := burnt_S d
  have hK4 := burnt_keep d
  have HD4 := Lib.hid hd4
  have HC4 := Lib.hid hC4
  have HS4 := Lib.hid hS4
  have HK4 := Lib.hid hK4
  clear hd3 hc4 hC3 e4 hd4 hC4 hS4 hK4 HBU
  obtain ⟨KL, hKL⟩ : ∃ KL, d.keep.length = KL := ⟨_, rfl⟩
  have HKL := Lib.hid hKL
  rw [hKL]
  clear hKL
  go_wp2_with fail
  go_loopw [43] (fun i wr => ∃ k : Nat, k ≤ R.length ∧ i = .int .i64 k ∧ Hid (Chg2 b g w wr) ∧ Hid (DrA B wr b g K kc { d.burnt with S := putK false d.keep q (R.map RowS.l) k d.S, writes := wrap64 (d.writes + 1) })) (fun i _ => R.length - (intOf i).toNat)
  case atStart => exact ⟨0, by omega, rfl, HC4, by have h := HD4.out; rw [show d.burnt = { d.burnt with S := d.S } by rw [← HS4.out]] at h; exact h⟩
  case round =>
    obtain ⟨k, hk, rfl, HCX, HDX⟩ := hrel
    have hlt4 : b < wr.heap.size := HDX.out.lt.1
    have hz4 := HDX.out.got.2.2.2.2.1
    rw [show ({ d.burnt with S := putK false d.keep q (R.map RowS.l) k d.S, writes := wrap64 (d.writes + 1) } : Dv).S.length = d.S.length from putK_len k] at hz4
    by_cases hlt2 : k < R.length
    · obtain ⟨bb, o, hA, hbw, hg⟩ := ((HS.out _ HCX.out).1).rowS hlt2
      have hlk : (k : Int) < (R.length : Int) := by omega
      have hgk : (0 : Int) ≤ (k : Int) := by omega
      have hw1 : IntKind.i64.wrap ((q : Int) + (k : Int)) = ((q + k : Nat) : Int) := by rw [IntKind.wrap_i64]; have := HQ.out; omega
      have hq1 : ((q + k : Nat) : Int) < ((d.S.length : Nat) : Int) := by have := HQ.out; omega
      have hq0 : (0 : Int) ≤ ((q + k : Nat) : Int) := by omega
      subst hA
      have h9 := H96.out k hlt2
      rw [h9] at hg
      clear h9
      have hd5 := HDX.out
      have hq5 : q + k < (putK false d.keep q (R.map RowS.l) k d.S).length := by rw [putK_len]; have := HQ.out; omega
      obtain ⟨hsl, hfar⟩ := HROW.out _ HCX.out k hlt2
      obtain ⟨br, or_, hA, hcells⟩ := hsl (by intro e; have := congrArg List.length e; rw [by8_length, H96.out k hlt2] at this; simp at this)
      have hcp := run_copy8 wr g ((q + k) * 96) 96 96 ⟨br, or_, none⟩ 96 R[k].c _ R[k].l 142 hd5.row (by rw [H96.out k hlt2]; rfl) (fun j v hj => by rw [addr_add]; exact hcells j v hj) (by rw [flat_len hd5.s96, H96.out k hlt2]; have := Nat.mul_le_mul_right 96 (Nat.succ_le_of_lt hq5); simp only [Nat.succ_mul] at this; exact this)
      rw [H96.out k hlt2] at hcp
      have hd6 := hd5.put hq5 (H96.out k hlt2) (HOC.out k hlt2)
      have hC6 := HCX.out.trans (chg2_setRow (b := b) (g := g) (by8 (splice (putK false d.keep q (R.map RowS.l) k d.S).flatten ((q + k) * 96) R[k].l)).toArray)
      have hp6 : putK false d.keep q (R.map RowS.l) (k + 1) d.S = (putK false d.keep q (R.map RowS.l) k d.S).set (q + k) R[k].l := by
        rw [putK, if_pos (by rfl), List.getD_eq_getElem?_getD, List.getElem?_map, List.getElem?_eq_getElem hlt2]; rfl
      simp only [] at hd6
      rw [← hp6] at hd6
      have HCP := Lib.hid hcp
      have HD6 := Lib.hid hd6
      have HC6 := Lib.hid hC6
      have HA := Lib.hid hA
      clear hcp hd6 hC6 hd5 hsl hfar hcells hp6 hA
      simp only [] at HCP HD6 HC6
      generalize wr.setRow g _ = w6 at HCP HD6 HC6
      rw [HA.out] at hg
      go_wp2_with fail
      rw [HCP.out, Result.andThen_ok, Oper.upon_value]
      go_wp2_with fail
      go_roundw
      case rel => exact ⟨k + 1, by omega, by go_num, HC6, HD6⟩
      case measure => simp [intOf]; omega
    · obtain rfl : k = R.length := by omega
      have hlk : ¬ (R.length : Int) < (R.length : Int) := by omega
      go_wp2_with fail
      go_ret
      exact ⟨rfl, HCX.out, HDX.out⟩
theorem dwrite_okT {B b g kc : Nat} {K : Option Addr} {d : Dv} (p : Int) (A : Option Addr) (c : Nat) (R : List (RowS Nat)) (w : World) (h : DrA B w b g K kc d) (ho : d.on = true) (hl : R.length ≤ 1000000) (hs : SlF w b g A (rc RowS.cells R))
    (hr : ∀ r ∈ R, SlF w b g r.A (by8 r.l) ∧ Oct r.l) (hf : fitsF d.S.length p (R.map RowS.l) = true) (h0 : 0 < R.length) (hT : d.torn = true) :
    Calls Try.prog 56 #[.pointer (some ⟨b, 0, none⟩), .int .i64 p, .slice A R.length c] w fun e w' => e = .returned (.int .i64 9) ∧ Chg2 b g w w' ∧
      DrA B w' b g K kc { d.burnt with S := putK true d.keep p.toNat (R.map RowS.l) R.length d.S, writes := wrap64 (d.writes + 1) } := by
  have HR := Lib.hid (dready_any w h)
  have HF := Lib.hid (fun V (hV : Below w.heap.size w V) => dfits_any p A c R V (h.below hV) hl (hs.1.below hV))
  rw [ho] at HR
  rw [hf] at HF
  have hff := fitsF_true hf
  rw [List.length_map] at hff
  obtain ⟨h96, hp0, hp1⟩ := hff
  obtain ⟨q, rfl⟩ : ∃ q : Nat, p = (q : Int) := ⟨p.toNat, by omega⟩
  rw [Int.toNat_natCast]
  have HD := Lib.hid (fun V (hV : Below w.heap.size w V) => h.below hV)
  have HS := Lib.hid (fun V (hV : Chg2 b g w V) => hs.chg hV)
  have HROW := Lib.hid (fun V (hV : Chg2 b g w V) k (hk : k < R.length) => ((hr _ (List.getElem_mem hk)).1.chg hV))
  have H96 := Lib.hid (fun k (hk : k < R.length) => h96 R[k].l (List.mem_map.2 ⟨_, List.getElem_mem hk, rfl⟩))
  have HOC := Lib.hid (fun k (hk : k < R.length) => (hr _ (List.getElem_mem hk)).2)
  have HQ := Lib.hid (show q + R.length ≤ d.S.length by omega)
  have hln : ((R.length : Int) == 0) = false := by simpa using (by omega : (R.length : Int) ≠ 0)
  have HLN := Lib.hid hl
  have HT := Lib.hid hT
  clear hT
  have hSl := h.len.2
  clear hs hr hf ho hp0 hp1 h96 hl h0
  go_enter Try.func56, Try.ntmps56
  go_wp2_with fail
  refine HR.out.mono ?_
  rintro e w1 ⟨rfl, hb⟩
  go_wp2_with fail
  refine (HF.out _ hb).mono ?_
  rintro e w2 ⟨rfl, hb2⟩
  have hB := since_step hb hb2
  have hd2 := HD.out _ hB
  obtain ⟨k0, k1, k2, k3, k4, k5⟩ := hd2.got
  have f5 := hd2.fz 5
  have hlt := hd2.lt.1
  clear hb hb2 h
  go_wp2_with fail
  have hd3 : DrA B (w2.setCell ⟨b, 5, none⟩ (.int .i64 (wrap64 (d.writes + 1)))) b g K kc { d with writes := wrap64 (d.writes + 1) } := by
    refine hd2.turn rfl ?_ (set_far _ (fun e => hd2.ne e.symm)) (own_far1 hd2.kp hd2.kb _) hd2.sp hd2.kl
    have e := set_blk (i := 5) (.int .i64 (wrap64 (d.writes + 1))) hd2.blk
    simpa [Dv.cells] using e
  have hC3 : Chg2 b g w (w2.setCell ⟨b, 5, none⟩ (.int .i64 (wrap64 (d.writes + 1)))) := (Chg2.of_below hB).trans (Chg2.set_b 5 _)
  clear k0 k1 k2 k3 k4 k5 f5 hd2 hB
  generalize w2.setCell ⟨b, 5, none⟩ (.int .i64 (wrap64 (d.writes + 1))) = w3 at *
  have HBU := Lib.hid (dburn_any w3 hd3)
  refine HBU.out.mono ?_
  rintro e w4 ⟨rfl, hc4, hd4⟩
  have hC4 := hC3.trans hc4
  rw [show Dv.torn { d with writes := wrap64 (d.writes + 1) } = d.torn from rfl, HT.out]
  have e4 := burnt_writes d (wrap64 (d.writes + 1))
  rw [e4] at hd4
  have hS4 := burnt_S d
  have hK4 := burnt_keep d
  have HD4 := Lib.hid hd4
  have HC4 := Lib.hid hC4
  have HS4 := Lib.hid hS4
  have HK4 := Lib.hid hK4
  clear hd3 hc4 hC3 e4 hd4 hC4 hS4 hK4 HBU
  obtain ⟨KL, hKL⟩ : ∃ KL, d.keep.length = KL := ⟨_, rfl⟩
  have HKL := Lib.hid hKL
  rw [hKL]
  clear hKL
  go_wp2_with fail
  go_loopw [43] (fun i wr => ∃ k : Nat, k ≤ R.length ∧ i = .int .i64 k ∧ Hid (Chg2 b g w wr) ∧ Hid (DrA B wr b g K kc { d.burnt with S := putK true d.keep q (R.map RowS.l) k d.S, writes := wrap64 (d.writes + 1) })) (fun i _ => R.length - (intOf i).toNat)
  case atStart => exact ⟨0, by omega, rfl, HC4, by have h := HD4.out; rw [show d.burnt = { d.burnt with S := d.S } by rw [← HS4.out]] at h; exact h⟩
  case round =>
    obtain ⟨k, hk, rfl, HCX, HDX⟩ := hrel
    have hlt4 : b < wr.heap.size := HDX.out.lt.1
    have hz4 := HDX.out.got.2.2.2.2.1
    rw [show ({ d.burnt with S := putK true d.keep q (R.map RowS.l) k d.S, writes := wrap64 (d.writes + 1) } : Dv).S.length = d.S.length from putK_len k] at hz4
    by_cases hlt2 : k < R.length
    · obtain ⟨bb, o, hA, hbw, hg⟩ := ((HS.out _ HCX.out).1).rowS hlt2
      have hlk : (k : Int) < (R.length : Int) := by omega
      have hgk : (0 : Int) ≤ (k : Int) := by omega
      have hw1 : IntKind.i64.wrap ((q : Int) + (k : Int)) = ((q + k : Nat) : Int) := by rw [IntKind.wrap_i64]; have := HQ.out; omega
      have hq1 : ((q + k : Nat) : Int) < ((d.S.length : Nat) : Int) := by have := HQ.out; omega
      have hq0 : (0 : Int) ≤ ((q + k : Nat) : Int) := by omega
      subst hA
      have h9 := H96.out k hlt2
      rw [h9] at hg
      clear h9
      have HHI := Lib.hid (has_int K kc d.keep (k : Int) wr (by have := HDX.out.kl; rw [show ({ d.burnt with S := putK true d.keep q (R.map RowS.l) k d.S, writes := wrap64 (d.writes + 1) } : Dv).keep = d.keep from HK4.out] at this; exact this) (by have := Sl.of_own HDX.out.kp; rw [show ({ d.burnt with S := putK true d.keep q (R.map RowS.l) k d.S, writes := wrap64 (d.writes + 1) } : Dv).keep = d.keep from HK4.out] at this; exact this))
      rw [HKL.out] at HHI
      cases hin : inL k d.keep with
      | true =>
        have HIN := Lib.hid hin
        rw [hin] at HHI
        clear hin
        go_wp2_with fail
        refine HHI.out.mono ?_
        rintro e wz ⟨rfl, hb⟩
        have HCZ := Lib.hid (HCX.out.step hb)
        have HDZ := Lib.hid (HDX.out.below hb)
        have hltz : b < wz.heap.size := HDZ.out.lt.1
        have hz4z := HDZ.out.got.2.2.2.2.1
        rw [show ({ d.burnt with S := putK true d.keep q (R.map RowS.l) k d.S, writes := wrap64 (d.writes + 1) } : Dv).S.length = d.S.length from putK_len k] at hz4z
        clear hb hz4 hlt4
        have hd5 := HDZ.out
        have hq5 : q + k < (putK true d.keep q (R.map RowS.l) k d.S).length := by rw [putK_len]; have := HQ.out; omega
        obtain ⟨hsl, hfar⟩ := HROW.out _ HCZ.out k hlt2
        obtain ⟨br, or_, hA, hcells⟩ := hsl (by intro e; have := congrArg List.length e; rw [by8_length, H96.out k hlt2] at this; simp at this)
        have hcp := run_copy8 wz g ((q + k) * 96) 96 96 ⟨br, or_, none⟩ 96 R[k].c _ R[k].l 142 hd5.row (by rw [H96.out k hlt2]; rfl) (fun j v hj => by rw [addr_add]; exact hcells j v hj) (by rw [flat_len hd5.s96, H96.out k hlt2]; have := Nat.mul_le_mul_right 96 (Nat.succ_le_of_lt hq5); simp only [Nat.succ_mul] at this; exact this)
        rw [H96.out k hlt2] at hcp
        have hd6 := hd5.put hq5 (H96.out k hlt2) (HOC.out k hlt2)
        have hC6 := HCZ.out.trans (chg2_setRow (b := b) (g := g) (by8 (splice (putK true d.keep q (R.map RowS.l) k d.S).flatten ((q + k) * 96) R[k].l)).toArray)
        have hp6 : putK true d.keep q (R.map RowS.l) (k + 1) d.S = (putK true d.keep q (R.map RowS.l) k d.S).set (q + k) R[k].l := by
          rw [putK, if_pos (by rw [HIN.out]; rfl), List.getD_eq_getElem?_getD, List.getElem?_map, List.getElem?_eq_getElem hlt2]; rfl
        simp only [] at hd6
        rw [← hp6] at hd6
        have HCP := Lib.hid hcp
        have HD6 := Lib.hid hd6
        have HC6 := Lib.hid hC6
        have HA := Lib.hid hA
        clear hcp hd6 hC6 hd5 hsl hfar hcells hp6 hA
        simp only [] at HCP HD6 HC6
        generalize wz.setRow g _ = w6 at HCP HD6 HC6
        rw [HA.out]
        go_wp2_with fail
        rw [HCP.out, Result.andThen_ok, Oper.upon_value]
        go_wp2_with fail
        go_roundw
        case rel => exact ⟨k + 1, by omega, by go_num, HC6, HD6⟩
        case measure => simp [intOf]; omega
      | false =>
        have hp6 : putK true d.keep q (R.map RowS.l) (k + 1) d.S = putK true d.keep q (R.map RowS.l) k d.S := by
          rw [putK, if_neg (by rw [hin]; decide)]
        have HP6 := Lib.hid hp6
        rw [hin] at HHI
        clear hin hp6
        go_wp2_with fail
        refine HHI.out.mono ?_
        rintro e wz ⟨rfl, hb⟩
        have HC6 := Lib.hid (HCX.out.step hb)
        have HD6 := Lib.hid (HDX.out.below hb)
        rw [← HP6.out] at HD6
        clear hb
        go_wp2_with fail
        go_roundw
        case rel => exact ⟨k + 1, by omega, by go_num, HC6, HD6⟩
        case measure => simp [intOf]; omega
    · obtain rfl : k = R.length := by omega
      have hlk : ¬ (R.length : Int) < (R.length : Int) := by omega
      go_wp2_with fail
      go_ret
      exact ⟨rfl, HCX.out, HDX.out⟩
theorem dwrite_ok {B b g kc : Nat} {K : Option Addr} {d : Dv} (p : Int) (A : Option Addr) (c : Nat) (R : List (RowS Nat)) (w : World) (h : DrA B w b g K kc d) (hl : R.length ≤ 1000000) (hs : SlF w b g A (rc RowS.cells R))
    (hr : ∀ r ∈ R, SlF w b g r.A (by8 r.l) ∧ Oct r.l) :
    Calls Try.prog 56 #[.pointer (some ⟨b, 0, none⟩), .int .i64 p, .slice A R.length c] w fun e w' => e = .returned (.int .i64 (d.write p (R.map RowS.l)).2) ∧ Chg2 b g w w' ∧ DrA B w' b g K kc (d.write p (R.map RowS.l)).1 := by
  unfold Dv.write
  rw [List.length_map]
  by_cases ho : d.on = true
  · rw [if_pos ho]
    by_cases hf : fitsF d.S.length p (R.map RowS.l) = true
    · rw [if_pos hf]
      by_cases h0 : R.length = 0
      · rw [if_pos h0]
        refine (dwrite_no p A c R w h ho hl hs.1 (.inr h0)).mono ?_
        rintro e w1 ⟨rfl, hb⟩
        rw [if_pos hf]
        exact ⟨rfl, Chg2.of_below hb, h.below hb⟩
      · rw [if_neg h0]
        cases hT : d.torn with
        | false => exact dwrite_okF p A c R w h ho hl hs hr hf (by omega) hT
        | true => exact dwrite_okT p A c R w h ho hl hs hr hf (by omega) hT
    · rw [if_neg hf]
      refine (dwrite_no p A c R w h ho hl hs.1 (.inl (by simpa using hf))).mono ?_
      rintro e w1 ⟨rfl, hb⟩
      rw [if_neg hf]
      exact ⟨rfl, Chg2.of_below hb, h.below hb⟩
  · rw [if_neg ho]
    refine (dwrite_off p A R.length c w h (by simpa using ho)).mono ?_
    rintro e w1 ⟨rfl, hb⟩
    exact ⟨rfl, Chg2.of_below hb, h.below hb⟩
end
section
theorem own_kept_types {w w' : World} {B B' e e' s s' : Nat} {v v' : Value} {n n' : Nat} {xs ys : List Value} (hne : e ≠ e') (h : w.ownsRow B e s v n xs) (ho : w.ownsRow B' e' s' v' n' ys) (hg : w.grownBy w' v'.ownBlock) : w'.ownsRow B e s v n xs := by
  refine h.kept hg ?_
  rcases h.2 with ⟨rfl, _⟩ | ⟨g, cap, cur, rfl, _, hh, _⟩
  · exact .inl rfl
  · right
    rcases ho.2 with ⟨rfl, _⟩ | ⟨g', cap', cur', rfl, _, hh', _⟩
    · simp [Value.ownBlock]
    · simp only [Value.ownBlock, ne_eq, Option.some.injEq]
      intro e
      subst e
      rw [hh] at hh'
      injection hh' with hh'
      injection hh' with _ e
      exact absurd e hne
end
section
def Nob (w : World) (p : Option Addr) : Prop := p = none ∨ ∃ b, p = some ⟨b, 0, none⟩ ∧ w.heap[b]? = some (.cells #[.bool false, .bool false, .int .i64 0, .slice none 0 0, .slice none 0 0, .int .i64 0] 71 (0, 0))
theorem Nob.below {w w' : World} {p : Option Addr} (h : Nob w p) (hb : Below w.heap.size w w') : Nob w' p := by
  rcases h with h | ⟨b, h1, h2⟩
  · exact .inl h
  · exact .inr ⟨b, h1, by rw [hb.block b (Array.getElem?_eq_some_iff.1 h2).1]; exact h2⟩
def OwnR (B : Nat) (w : World) (S : List (RowS Nat)) : Prop := ∀ s ∈ S, w.ownsRow B 5 1 (.slice s.A s.l.length s.c) s.l.length (by8 s.l)
theorem OwnR.below {B : Nat} {w w' : World} {S : List (RowS Nat)} (h : OwnR B w S) (hb : Below w.heap.size w w') : OwnR B w' S := fun s hs => own_below (h s hs) hb
theorem OwnR.chg {B b g : Nat} {w w' : World} {S : List (RowS Nat)} (h : OwnR B w S) {kc : Nat} {K : Option Addr} {d : Dv} {B2 : Nat} (hd : DrA B2 w b g K kc d) (hc : Chg2 b g w w') : OwnR B w' S := fun s hs => by
  obtain ⟨h1, h2⟩ := hd.off (h s hs) (by decide) (by decide)
  exact hc.own (h s hs) h1 h2
theorem OwnR.slf {B b g : Nat} {w : World} {S : List (RowS Nat)} (h : OwnR B w S) {kc : Nat} {K : Option Addr} {d : Dv} {B2 : Nat} (hd : DrA B2 w b g K kc d) : ∀ r ∈ S, SlF w b g r.A (by8 r.l) := fun r hr => by
  obtain ⟨h1, h2⟩ := hd.off (h r hr) (by decide) (by decide)
  exact SlF.of_own (h r hr) h1 h2
end
section
theorem rd_nt' {w : World} {r : List Value} (h : Go.Proofs.Ytiggcpfmmgmncaa.Rd w (.int .i64) r) : ∃ g : Nt, r = g.cells ∧ True := by
  obtain ⟨n, rfl, hn⟩ := h
  exact ⟨⟨n⟩, rfl, trivial⟩
theorem putK_or {torn : Bool} {keep : List Nt} {p : Nat} {cs S : List (List Nat)} : ∀ (k : Nat), k ≤ cs.length → ∀ i, (putK torn keep p cs k S)[i]? = S[i]? ∨ (p ≤ i ∧ i < p + k ∧ (i < S.length → (putK torn keep p cs k S)[i]? = cs[i - p]?))
  | 0, _, i => .inl rfl
  | k + 1, hk, i => by
    have ih := putK_or (torn := torn) (keep := keep) (p := p) (cs := cs) (S := S) k (by omega) i
    rw [putK]
    split
    · by_cases e : p + k = i
      · subst e
        refine .inr ⟨by omega, by omega, fun hi => ?_⟩
        rw [List.getElem?_set_self (by rw [putK_len]; exact hi), show p + k - p = k by omega, List.getD_eq_getElem?_getD, List.getElem?_eq_getElem (by omega)]; rfl
      · rw [List.getElem?_set_ne e]
        rcases ih with h | ⟨h1, h2, h3⟩
        · exact .inl h
        · exact .inr ⟨h1, by omega, h3⟩
    · rcases ih with h | ⟨h1, h2, h3⟩
      · exact .inl h
      · exact .inr ⟨h1, by omega, h3⟩
theorem putK_in {keep : List Nt} {p : Nat} {cs S : List (List Nat)} : ∀ (k : Nat), k ≤ cs.length → ∀ i, p ≤ i → i < p + k → i < S.length → (putK false keep p cs k S)[i]? = cs[i - p]?
  | 0, _, i, h1, h2, _ => absurd h2 (by omega)
  | k + 1, hk, i, h1, h2, h3 => by
    rw [putK, if_pos (show (!false || inL (k : Int) keep) = true from rfl)]
    by_cases e : p + k = i
    · subst e
      rw [List.getElem?_set_self (by rw [putK_len]; exact h3), show p + k - p = k by omega, List.getD_eq_getElem?_getD, List.getElem?_eq_getElem (by omega)]; rfl
    · rw [List.getElem?_set_ne e]
      exact putK_in k (by omega) i h1 (by omega) h3
def RowsF (w : World) (b g : Nat) (A : Option Addr) (S : List (RowS Nat)) : Prop := SlF w b g A (rc RowS.cells S) ∧ ∀ r ∈ S, SlF w b g r.A (by8 r.l)
theorem RowsF.chg {w w1 : World} {b g : Nat} {A : Option Addr} {S : List (RowS Nat)} (h : RowsF w b g A S) (hc : Chg2 b g w w1) : RowsF w1 b g A S := ⟨h.1.chg hc, fun r hr => (h.2 r hr).chg hc⟩
theorem RowsF.below {w w1 : World} {b g : Nat} {A : Option Addr} {S : List (RowS Nat)} (h : RowsF w b g A S) (hc : Below w.heap.size w w1) : RowsF w1 b g A S := ⟨h.1.below hc, fun r hr => (h.2 r hr).below hc⟩
theorem RowsF.of_own {w : World} {b g B base base2 kc c : Nat} {K A : Option Addr} {d : Dv} {S : List (RowS Nat)} (hd : DrA B w b g K kc d) (ho : w.ownsRow base 36 1 (.slice A S.length c) S.length (rc RowS.cells S)) (hr : OwnR base2 w S) : RowsF w b g A S := by
  obtain ⟨x1, x2⟩ := hd.off ho (by decide) (by decide)
  exact ⟨SlF.of_own ho x1 x2, fun r h => hr.slf hd r h⟩
end
end Go.Proofs.Ytiggcpfmmgmncaa
