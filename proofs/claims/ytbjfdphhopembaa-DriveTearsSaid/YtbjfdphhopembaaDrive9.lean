/-
  Layer 6, ninth part: DriveTears (laid by gen_drive9.py).
-/
import Derived.Test.YtbjfdphhopembaaDrive8
namespace Go.Proofs.Ytbjfdphhopembaa
open Go.ChangeShapes Go.WideShapes Go.ChangeAt Go.RowKit
set_option linter.unusedVariables false
set_option linter.unusedSimpArgs false

theorem rc_by8' (l : List Nat) : rc (fun n : Nat => [Value.int .u8 (n : Int)]) l = by8 l := by
  unfold rc by8
  induction l with
  | nil => rfl
  | cons a l ih => simp only [List.map_cons, List.flatten_cons, ih]; rfl
theorem rd_byte' {w : World} {r : List Value} (h : Go.Proofs.Ytbjfdphhopembaa.Rd w (.int .u8) r) : ∃ n : Nat, r = [.int .u8 (n : Int)] ∧ n < 256 := by
  obtain ⟨n, rfl, hn⟩ := h
  have := bd_u8 hn
  exact ⟨n.toNat, by rw [show ((n.toNat : Nat) : Int) = n by omega], by omega⟩
theorem rd_nt' {w : World} {r : List Value} (h : Go.Proofs.Ytbjfdphhopembaa.Rd w (.int .i64) r) : ∃ g : Nt, r = g.cells ∧ True := by
  obtain ⟨n, rfl, hn⟩ := h
  exact ⟨⟨n⟩, rfl, trivial⟩
/-- a slice of rows of bytes that came in -/
theorem rd_rows8 {w : World} {A : Option Addr} {n c : Nat} (h : Rd w (.sl (.sl (.int .u8))) [.slice A n c]) :
    ∃ S : List (RowS Nat), S.length = n ∧ n ≤ c ∧ c ≤ maxLen ∧ Sl w A (rc RowS.cells S) ∧ ∀ r ∈ S, r.l.length ≤ r.c ∧ r.c ≤ maxLen ∧ Sl w r.A (by8 r.l) ∧ Oct r.l := by
  obtain ⟨S, h1, h2, h3, h4, h5⟩ := rd_rows2 (f := fun n : Nat => [Value.int .u8 (n : Int)]) (p := fun n => n < 256) (fun r => rd_byte') h
  refine ⟨S, h1, h2, h3, h4, fun r hr => ?_⟩
  obtain ⟨a, b, c, d⟩ := h5 r hr
  rw [rc_by8'] at c
  exact ⟨a, b, c, d⟩
theorem putK_or {torn : Bool} {keep : List Nt} {p : Nat} {cs S : List (List Nat)} : ∀ (k : Nat), k ≤ cs.length → ∀ i, (putK torn keep p cs k S)[i]? = S[i]? ∨ (p ≤ i ∧ i < p + k ∧ (i < S.length → (putK torn keep p cs k S)[i]? = cs[i - p]?))
  | 0, _, i => .inl rfl
  | k + 1, hk, i => by
    have ih := putK_or (torn := torn) (keep := keep) (p := p) (cs := cs) (S := S) k (by omega) i
    rw [putK]
    split
    · by_cases e : p + k = i
      · subst e
        refine .inr ⟨by omega, by omega, fun hi => ?_⟩
        rw [List.getElem?_set_self (by rw [putK_len]; exact hi), show p + k - p = k by omega, List.getD_eq_getElem?_getD, List.getElem?_eq_getElem (by omega)]; rfl
      · rw [List.getElem?_set_ne e]
        rcases ih with h | ⟨h1, h2, h3⟩
        · exact .inl h
        · exact .inr ⟨h1, by omega, h3⟩
    · rcases ih with h | ⟨h1, h2, h3⟩
      · exact .inl h
      · exact .inr ⟨h1, by omega, h3⟩
theorem putK_in {keep : List Nt} {p : Nat} {cs S : List (List Nat)} : ∀ (k : Nat), k ≤ cs.length → ∀ i, p ≤ i → i < p + k → i < S.length → (putK false keep p cs k S)[i]? = cs[i - p]?
  | 0, _, i, h1, h2, _ => absurd h2 (by omega)
  | k + 1, hk, i, h1, h2, h3 => by
    rw [putK, if_pos (show (!false || inL (k : Int) keep) = true from rfl)]
    by_cases e : p + k = i
    · subst e
      rw [List.getElem?_set_self (by rw [putK_len]; exact h3), show p + k - p = k by omega, List.getD_eq_getElem?_getD, List.getElem?_eq_getElem (by omega)]; rfl
    · rw [List.getElem?_set_ne e]
      exact putK_in k (by omega) i h1 (by omega) h3
/-- a sector behind the first write -/
def wasF (p : Nat) (cs : List (List Nat)) (i : Nat) : List Nat := if p ≤ i ∧ i - p < cs.length then cs.getD (i - p) [] else List.replicate 96 0
theorem fits50 {p : Nat} {cs : List (List Nat)} (hp : p ≤ 10) (hl : cs.length ≤ 40) (h : ∀ c ∈ cs, c.length = 96) : fitsF 50 p cs = true := by
  unfold fitsF
  rw [Bool.and_eq_true, Bool.and_eq_true, List.all_eq_true]
  refine ⟨fun c hc => by simpa using h c hc, decide_eq_true (by omega), decide_eq_true (by omega)⟩
theorem tear1 {p : Nat} {cs : List (List Nat)} (hp : p ≤ 10) (hl : cs.length ≤ 40) (h : ∀ c ∈ cs, c.length = 96) :
    ∃ D, (Dv.new 50).write p cs = (D, 0) ∧ D.on = true ∧ D.S.length = 50 ∧ ∀ i, i < 50 → D.S[i]? = some (wasF p cs i) := by
  have hn : (Dv.new 50).S.length = 50 := by simp [Dv.new]
  have hz : ∀ i, i < 50 → (Dv.new 50).S[i]? = some (List.replicate 96 0) := fun i hi => by show (List.replicate 50 (List.replicate 96 0))[i]? = _; rw [List.getElem?_replicate, if_pos hi]
  obtain ⟨ZZ, hZZ⟩ : ∃ ZZ, Dv.new 50 = ZZ := ⟨_, rfl⟩
  have hzo : ZZ.on = true := by rw [← hZZ]; rfl
  have hzt : ZZ.torn = false := by rw [← hZZ]; rfl
  have hzb : ZZ.burnt.on = true := by rw [← hZZ]; rfl
  rw [hZZ] at hn hz ⊢
  clear hZZ
  unfold Dv.write
  rw [if_pos hzo, hn, if_pos (fits50 hp hl h)]
  by_cases h0 : cs.length = 0
  · rw [if_pos h0]
    refine ⟨_, rfl, hzo, hn, fun i hi => ?_⟩
    rw [hz i hi, wasF, if_neg (by omega)]
  · rw [if_neg h0, hzt]
    refine ⟨_, rfl, hzb, ?_, fun i hi => ?_⟩
    · simp only [putK_len]; exact hn
    · simp only [Int.toNat_natCast]
      by_cases hr : p ≤ i ∧ i - p < cs.length
      · rw [putK_in _ (Nat.le_refl _) i hr.1 (by omega) (by rw [hn]; exact hi), wasF, if_pos hr, List.getD_eq_getElem?_getD, List.getElem?_eq_getElem hr.2]; rfl
      · rcases putK_or (torn := false) (keep := ZZ.keep) (p := p) (cs := cs) (S := ZZ.S) cs.length (Nat.le_refl _) i with h1 | ⟨h1, h2, _⟩
        · rw [h1, hz i hi, wasF, if_neg hr]
        · exact absurd ⟨h1, by omega⟩ hr
theorem tear2 {D : Dv} {p : Nat} {cs : List (List Nat)} (l : List Nt) (hp : p ≤ 10) (hl : cs.length ≤ 40) (h : ∀ c ∈ cs, c.length = 96) (hon : D.on = true) (hn : D.S.length = 50) (h0 : cs.length ≠ 0) :
    ∃ E, (D.fuse 0 l).1.write p cs = (E, 9) ∧ E.on = false ∧ E.S.length = 50 ∧ ∀ i, i < 50 → E.S[i]? = D.S[i]? ∨ (p ≤ i ∧ i - p < cs.length ∧ E.S[i]? = cs[i - p]?) := by
  unfold Dv.fuse Dv.write
  rw [if_pos hon, if_pos (Int.le_refl 0)]
  simp only [if_true]
  rw [hn, if_pos (fits50 hp hl h), if_neg h0]
  have ht : Dv.torn { D with on := true, fused := true, spare := 0, keep := l } = true := rfl
  rw [ht]
  refine ⟨_, rfl, rfl, ?_, fun i hi => ?_⟩
  · simp only [putK_len]; exact hn
  · simp only [Int.toNat_natCast]
    rcases putK_or (torn := true) (keep := l) (p := p) (cs := cs) (S := D.S) cs.length (Nat.le_refl _) i with h1 | ⟨h1, h2, h3⟩
    · exact .inl h1
    · exact .inr ⟨h1, by omega, h3 (by omega)⟩
theorem tear0 {D : Dv} {p : Nat} {cs : List (List Nat)} (l : List Nt) (hp : p ≤ 10) (hon : D.on = true) (hn : D.S.length = 50) (h0 : cs.length = 0) : (D.fuse 0 l).1.write p cs = ((D.fuse 0 l).1, 0) ∧ (D.fuse 0 l).1.on = true ∧ (D.fuse 0 l).2 = 0 := by
  have hcs : cs = [] := List.eq_nil_of_length_eq_zero h0
  subst hcs
  unfold Dv.fuse Dv.write
  rw [if_pos hon, if_pos (Int.le_refl 0)]
  simp only [if_true]
  rw [hn, if_pos (fits50 hp (by decide) (fun c hc => by cases hc))]
  refine ⟨?_, ?_, ?_⟩ <;> first | rfl | trivial
theorem fuse0_2 {D : Dv} (l : List Nt) (hon : D.on = true) : (D.fuse 0 l).2 = 0 := by
  unfold Dv.fuse
  rw [if_pos hon]
theorem cellsL_len {L : List (List Nat)} : (cellsL L).length ≤ 40 := by simp [cellsL]; omega
theorem cellsL_96 {L : List (List Nat)} : ∀ c ∈ cellsL L, c.length = 96 := fun c hc => by
  obtain ⟨y, _, rfl⟩ := List.mem_map.1 hc
  exact pad96_len y
theorem cellsL_oct {L : List (List Nat)} (h : ∀ r ∈ L, Oct r) : ∀ c ∈ cellsL L, Oct c := fun c hc => by
  obtain ⟨y, hy, rfl⟩ := List.mem_map.1 hc
  exact pad96_oct (h y (List.mem_of_mem_take hy))
/-- rows of the call's own that a drive leaves -/
def RowsF (w : World) (b g : Nat) (A : Option Addr) (S : List (RowS Nat)) : Prop := SlF w b g A (rc RowS.cells S) ∧ ∀ r ∈ S, SlF w b g r.A (by8 r.l)
theorem RowsF.chg {w w1 : World} {b g : Nat} {A : Option Addr} {S : List (RowS Nat)} (h : RowsF w b g A S) (hc : Chg2 b g w w1) : RowsF w1 b g A S := ⟨h.1.chg hc, fun r hr => (h.2 r hr).chg hc⟩
theorem RowsF.below {w w1 : World} {b g : Nat} {A : Option Addr} {S : List (RowS Nat)} (h : RowsF w b g A S) (hc : Below w.heap.size w w1) : RowsF w1 b g A S := ⟨h.1.below hc, fun r hr => (h.2 r hr).below hc⟩
theorem RowsF.of_own {w : World} {b g B base base2 kc c : Nat} {K A : Option Addr} {d : Dv} {S : List (RowS Nat)} (hd : DrA B w b g K kc d) (ho : w.ownsRow base 34 1 (.slice A S.length c) S.length (rc RowS.cells S)) (hr : OwnR base2 w S) : RowsF w b g A S := by
  obtain ⟨x1, x2⟩ := hd.off ho (by decide) (by decide)
  exact ⟨SlF.of_own ho x1 x2, fun r h => hr.slf hd r h⟩

set_option maxHeartbeats 8000000 in
set_option maxRecDepth 100000 in
theorem walk_DriveTears (a0 : Int) (a1 : Option Addr) (n1 c1 : Nat) (a2 : Option Addr) (n2 c2 : Nat) (a3 : Option Addr) (n3 c3 : Nat) (w : World) (w0 : (Lit.int .i64 a0).wf = true) (w1 : Rd w (.sl (.sl (.int .u8))) [.slice a1 n1 c1]) (w2 : Rd w (.sl (.sl (.int .u8))) [.slice a2 n2 c2]) (w3 : Rd w (.sl (.int .i64)) [.slice a3 n3 c3]) :
    Calls Try.prog 3 #[.int .i64 a0, .slice a1 n1 c1, .slice a2 n2 c2, .slice a3 n3 c3] w fun e w' => e = .returned (.bool true) ∧ Below w.heap.size w w' := by
  obtain ⟨L1, rfl, h1c, h1m, h1s, h1r⟩ := rd_rows8 w1
  obtain ⟨L2, rfl, h2c, h2m, h2s, h2r⟩ := rd_rows8 w2
  obtain ⟨L3, rfl, h3c, h3m, h3s, _⟩ := rd_rowsP (f := Nt.cells) (p := fun _ => True) (fun r => rd_nt') w3
  obtain ⟨p, hp, hp10⟩ := clampI_nat a0 10
  have HIN := Lib.hid (fun V => in_any a0 0 10 V)
  have hp : clampI a0 0 10 = (p : Int) := hp
  rw [hp] at HIN
  have HLV := Lib.hid (fun V => lives6_any V)
  have HC1 := Lib.hid (fun V (hV : Below w.heap.size w V) => cells6_any a1 c1 L1 V (Nat.le_trans h1c h1m) (h1s.below hV) (fun r hr => ⟨(h1r r hr).2.2.1.below hV, Nat.le_trans (h1r r hr).1 (h1r r hr).2.1⟩))
  have HC2 := Lib.hid (fun V (hV : Below w.heap.size w V) => cells6_any a2 c2 L2 V (Nat.le_trans h2c h2m) (h2s.below hV) (fun r hr => ⟨(h2r r hr).2.2.1.below hV, Nat.le_trans (h2r r hr).1 (h2r r hr).2.1⟩))
  have HK := Lib.hid (fun V => keep6_any a3 L3.length c3 V (by unfold maxLen at h3m; omega) h3c (by unfold maxLen at h3m; omega))
  obtain ⟨l3, hl3⟩ : ∃ l3, L3.take 40 = l3 := ⟨_, rfl⟩
  have hl40 : l3.length ≤ 40 := by rw [← hl3]; simp; omega
  rw [show min L3.length 40 = l3.length by rw [← hl3]; simp; omega] at HK
  have h3t : Sl w a3 (rc Nt.cells l3) := by
    have := h3s.take (40 * 1)
    rw [rc_take Nt.len, hl3] at this
    exact this
  have H3 := Lib.hid (fun V (hV : Below w.heap.size w V) => h3t.below hV)
  have H3A : Hid (∀ k o, a3 = some ⟨k, o, none⟩ → rc Nt.cells l3 ≠ [] → k < w.heap.size) := Lib.hid fun k o hA hne => by
    obtain ⟨b1, o1, e1, hc⟩ := h3t hne
    rw [hA] at e1
    injection e1 with e1
    injection e1 with e1 _
    subst e1
    cases hx : rc Nt.cells l3 with
    | nil => exact absurd hx hne
    | cons u us => exact World.block_lt_of_cell? _ _ (hc 0 u (by rw [hx]; rfl))
  have HO1 := Lib.hid (fun x (hx : x ∈ L1.map RowS.l) => by
    obtain ⟨r, hr, rfl⟩ := List.mem_map.1 hx
    exact (h1r r hr).2.2.2 : ∀ x ∈ L1.map RowS.l, Oct x)
  have HO2 := Lib.hid (fun x (hx : x ∈ L2.map RowS.l) => by
    obtain ⟨r, hr, rfl⟩ := List.mem_map.1 hx
    exact (h2r r hr).2.2.2 : ∀ x ∈ L2.map RowS.l, Oct x)
  have HN := Lib.hid (dnew_any 50 w (by decide) (by decide))
  have HP := Lib.hid hp10
  have HL40 := Lib.hid hl40
  clear w0 w1 w2 w3 h1c h1m h1s h1r h2c h2m h2s h2r h3c h3m h3s hl3 h3t hp hp10 hl40
  generalize L1.length = n1 at *
  generalize L2.length = n2 at *
  generalize L3.length = n3 at *
  obtain ⟨C1, hC1⟩ : ∃ C1, cellsL (L1.map RowS.l) = C1 := ⟨_, rfl⟩
  obtain ⟨C2, hC2⟩ : ∃ C2, cellsL (L2.map RowS.l) = C2 := ⟨_, rfl⟩
  have HF1 := Lib.hid (show C1.length ≤ 40 ∧ (∀ c ∈ C1, c.length = 96) ∧ (∀ c ∈ C1, Oct c) by rw [← hC1]; exact ⟨cellsL_len, cellsL_96, cellsL_oct HO1.out⟩)
  have HF2 := Lib.hid (show C2.length ≤ 40 ∧ (∀ c ∈ C2, c.length = 96) ∧ (∀ c ∈ C2, Oct c) by rw [← hC2]; exact ⟨cellsL_len, cellsL_96, cellsL_oct HO2.out⟩)
  rw [hC1] at HC1
  rw [hC2] at HC2
  clear hC1 hC2 HO1 HO2
  go_enter Try.func3, Try.ntmps3
  go_wp2_with fail
  refine HN.out.mono ?_
  rintro e v1 ⟨b, g, rfl, ⟨K, kc, hd1⟩, hb1⟩
  have HD := Lib.hid hd1
  have HGE := Lib.hid hd1.ge
  clear hd1 HN
  go_wp2_with fail
  refine (HC1.out _ hb1).mono ?_
  rintro e v2 ⟨⟨A1, d1, S1, rfl, own1, hm1, hor1⟩, hb⟩
  have HD2 := Lib.hid (HD.out.below hb)
  have HR1 := Lib.hid (RowsF.of_own HD2.out own1 hor1)
  have HM1 := Lib.hid hm1
  have hB2 := since_step hb1 hb
  clear hb own1 hor1 hm1 HD hb1 HC1
  have HS1 : Hid (S1.length = C1.length) := Lib.hid (by rw [← HM1.out, List.length_map])
  generalize hz1 : S1.length = z1 at *
  have HZ1 := Lib.hid hz1
  clear hz1
  go_wp2_with fail
  refine (HC2.out _ hB2).mono ?_
  rintro e v3 ⟨⟨A2, d2, S2, rfl, own2, hm2, hor2⟩, hb⟩
  have HD3 := Lib.hid (HD2.out.below hb)
  have HR13 := Lib.hid (HR1.out.below hb)
  have HR2 := Lib.hid (RowsF.of_own HD3.out own2 hor2)
  have HM2 := Lib.hid hm2
  have hB3 := since_step hB2 hb
  clear hb own2 hor2 hm2 HD2 HR1 hB2 HC2
  have HS2 : Hid (S2.length = C2.length) := Lib.hid (by rw [← HM2.out, List.length_map])
  generalize hz2 : S2.length = z2 at *
  have HZ2 := Lib.hid hz2
  clear hz2
  go_wp2_with fail
  refine (HIN.out _).mono ?_
  rintro e v4 ⟨rfl, rfl⟩
  clear HIN
  obtain ⟨D1, hD1, hon1, hlen1, hat1⟩ := tear1 HP.out HF1.out.1 HF1.out.2.1
  have hW := dwrite_ok (p : Int) A1 d1 S1 v3 HD3.out (by rw [HZ1.out, HS1.out]; have := HF1.out.1; omega) HR13.out.1 (fun r hr => ⟨HR13.out.2 r hr, HF1.out.2.2 r.l (by rw [← HM1.out]; exact List.mem_map.2 ⟨r, hr, rfl⟩)⟩)
  rw [HM1.out, hD1] at hW
  simp only at hW
  rw [HZ1.out] at hW
  have HW1 := Lib.hid hW
  have HON1 := Lib.hid hon1
  have HLEN1 := Lib.hid hlen1
  have HAT1 := Lib.hid hat1
  clear hW hD1 hon1 hlen1 hat1
  go_wp2_with fail
  refine HW1.out.mono ?_
  rintro e v5 ⟨rfl, hc5, hd5⟩
  have HD5 := Lib.hid hd5
  have HR15 := Lib.hid (HR13.out.chg hc5)
  have HR25 := Lib.hid (HR2.out.chg hc5)
  have hB5 := hB3.trans (hc5.below hB3.size HGE.out.1 HGE.out.2)
  clear hc5 hd5 HW1 HD3 HR13 HR2 hB3
  go_wp2_with fail
  refine (HK.out _).mono ?_
  rintro e v6 ⟨rfl, hb⟩
  have HD6 := Lib.hid (HD5.out.below hb)
  have HR16 := Lib.hid (HR15.out.below hb)
  have HR26 := Lib.hid (HR25.out.below hb)
  have hB6 := since_step hB5 hb
  clear hb HD5 HR15 HR25 hB5 HK
  have hF := dfuse_any 0 a3 c3 l3 v6 HD6.out hB6.size (by have := HL40.out; omega) (by decide) (SlF.of_old (H3.out _ hB6) H3A.out HGE.out.1 HGE.out.2)
  rw [fuse0_2 l3 HON1.out] at hF
  have HF := Lib.hid hF
  clear hF H3 H3A
  go_wp2_with fail
  refine HF.out.mono ?_
  rintro e v7 ⟨rfl, hc7, K7, kc7, hd7⟩
  have HD7 := Lib.hid hd7
  have HR17 := Lib.hid (HR16.out.chg hc7)
  have HR27 := Lib.hid (HR26.out.chg hc7)
  have hB7 := hB6.trans (hc7.below hB6.size HGE.out.1 HGE.out.2)
  clear hc7 hd7 HF HD6 HR16 HR26 hB6
  have hW := dwrite_ok (p : Int) A2 d2 S2 v7 HD7.out (by rw [HZ2.out, HS2.out]; have := HF2.out.1; omega) HR27.out.1 (fun r hr => ⟨HR27.out.2 r hr, HF2.out.2.2 r.l (by rw [← HM2.out]; exact List.mem_map.2 ⟨r, hr, rfl⟩)⟩)
  rw [HM2.out, HZ2.out] at hW
  by_cases h0 : z2 = 0
  · obtain ⟨t1, t2, t3⟩ := tear0 (cs := C2) l3 HP.out HON1.out HLEN1.out (by rw [← HS2.out]; exact h0)
    rw [t1] at hW
    simp only at hW
    have HW := Lib.hid hW
    have HT2 := Lib.hid t2
    clear hW t1 t2 t3
    subst h0
    go_wp2_with fail
    refine HW.out.mono ?_
    rintro e v8 ⟨rfl, hc8, hd8⟩
    have hB8 := hB7.trans (hc8.below hB7.size HGE.out.1 HGE.out.2)
    have HL := Lib.hid (dlive_any v8 hd8)
    rw [HT2.out] at HL
    clear hc8 hd8 HW
    go_wp2_with fail
    refine HL.out.mono ?_
    rintro e v9 ⟨rfl, hb9⟩
    have hB9 := since_step hB8 hb9
    go_wp2_with fail
    refine (HLV.out _).mono ?_
    rintro e v10 ⟨rfl, hb10⟩
    have hB10 := since_step hB9 hb10
    go_wp2_with fail
    go_ret
    exact ⟨rfl, hB10⟩
  · obtain ⟨E, hE, honE, hlenE, hatE⟩ := tear2 (cs := C2) l3 HP.out HF2.out.1 HF2.out.2.1 HON1.out HLEN1.out (by rw [← HS2.out]; exact h0)
    rw [hE] at hW
    simp only at hW
    have HW := Lib.hid hW
    have HONE := Lib.hid honE
    have HLENE := Lib.hid hlenE
    have HATE := Lib.hid hatE
    have hz0 : ((z2 : Int) == 0) = false := by simpa using (by omega : (z2 : Int) ≠ 0)
    clear hW hE honE hlenE hatE h0
    go_wp2_with fail
    refine HW.out.mono ?_
    rintro e v8 ⟨rfl, hc8, hd8⟩
    have HD8 := Lib.hid hd8
    have HR18 := Lib.hid (HR17.out.chg hc8)
    have HR28 := Lib.hid (HR27.out.chg hc8)
    have hB8 := hB7.trans (hc8.below hB7.size HGE.out.1 HGE.out.2)
    clear hc8 hd8 HW HD7 HR17 HR27 hB7
    go_wp2_with fail
    go_loopw [14] (fun jv wr => ∃ j : Nat, j ≤ 50 ∧ jv = .int .i64 j ∧ Below v8.heap.size v8 wr) (fun jv _ => 50 - (intOf jv).toNat)
    case atStart => exact ⟨0, Nat.zero_le _, rfl, Below.refl _ _⟩
    case round =>
      obtain ⟨j, hj, rfl, hB⟩ := hrel
      have hdj := HD8.out.below hB
      by_cases hj50 : j < 50
      · have hR := dread_ok j wr hdj (by rw [HLENE.out]; exact hj50)
        obtain ⟨X, hX⟩ : ∃ X, E.S[j]'(by rw [HLENE.out]; exact hj50) = X := ⟨_, rfl⟩
        have HX : Hid (E.S[j]? = some X) := Lib.hid (by rw [List.getElem?_eq_getElem (by rw [HLENE.out]; exact hj50), hX])
        rw [hX] at hR
        have HX96 : Hid (X.length = 96) := Lib.hid (by rw [← hX]; exact hdj.s96 _ (List.getElem_mem _))
        have HR := Lib.hid hR
        have hj3 : (j : Int) < 50 := by omega
        have hj0 : (0 : Int) ≤ (j : Int) := by omega
        have hwj : IntKind.i64.wrap ((j : Int) - (p : Int)) = (j : Int) - (p : Int) := by rw [IntKind.wrap_i64]; have := HP.out; omega
        clear hR hX hdj
        go_wp2_with fail
        refine HR.out.mono ?_
        rintro e w9 ⟨⟨mm, rfl, own9⟩, hb9⟩
        have hB9 := since_step hB hb9
        have HOWN9 := Lib.hid own9
        clear own9 hb9 HR
        by_cases hpj : p ≤ j
        · obtain ⟨k, hk⟩ : ∃ k : Nat, j - p = k := ⟨_, rfl⟩
          have hjk : (j : Int) - (p : Int) = (k : Int) := by omega
          have hwk : IntKind.i64.wrap (k : Int) = (k : Int) := by rw [IntKind.wrap_i64]; omega
          have hpj2 : (p : Int) ≤ (j : Int) := by omega
          have hk0 : (0 : Int) ≤ (k : Int) := by omega
          have HPJ := Lib.hid hpj
          have HKJ := Lib.hid hk
          clear hwj hpj hk
          by_cases hka : k < z1
          · have HK1 : Hid (k < S1.length) := Lib.hid (by rw [HZ1.out]; exact hka)
            have hka2 : (k : Int) < (z1 : Int) := by omega
            obtain ⟨C1k, hC1k⟩ : ∃ C1k, (S1[k]'HK1.out).l = C1k := ⟨_, rfl⟩
            have HC1K : Hid (C1k.length = 96) := Lib.hid (by rw [← hC1k]; exact HF1.out.2.1 _ (by rw [← HM1.out]; exact List.mem_map.2 ⟨_, List.getElem_mem HK1.out, rfl⟩))
            have hWS : wasF p C1 j = C1k := by
              rw [wasF, if_pos ⟨HPJ.out, by rw [HKJ.out, ← HS1.out]; exact hka⟩, HKJ.out, ← HM1.out, List.getD_eq_getElem?_getD, List.getElem?_map, List.getElem?_eq_getElem HK1.out, ← hC1k]; rfl
            have HXO : Hid (X = C1k ∨ (k < z2 ∧ ∀ h : k < S2.length, X = S2[k].l)) := Lib.hid (by
              rcases HATE.out j hj50 with h | ⟨_, h1, h2⟩
              · rw [HX.out, HAT1.out j hj50, hWS] at h; exact .inl (Option.some.inj h)
              · rw [HKJ.out, ← HS2.out] at h1
                refine .inr ⟨h1, fun hh => ?_⟩
                rw [HX.out, HKJ.out, ← HM2.out, List.getElem?_map, List.getElem?_eq_getElem hh] at h2
                exact Option.some.inj h2)
            by_cases hx : X = C1k
            · have HXW := Lib.hid hx
              clear hx hWS
              obtain ⟨S1k, hS1k⟩ : ∃ S1k, S1[k]'HK1.out = S1k := ⟨_, rfl⟩
              rw [hS1k] at hC1k
              have HS1K := Lib.hid hS1k
              have HCC := Lib.hid hC1k
              clear hS1k hC1k
              obtain ⟨b1, o1, hA1, hbw1, hg1⟩ := (HR18.out.below hB9).1.1.rowS HK1.out
              subst hA1
              rw [HS1K.out, HCC.out, HC1K.out] at hg1
              have HSL1 := Lib.hid (((HR18.out.below hB9).2 (S1[k]'HK1.out) (List.getElem_mem HK1.out)).1)
              rw [HS1K.out, HCC.out] at HSL1
              go_wp2_with (first
                | (at_make; refine wpList_z8 rfl (.const (.int .i64 96)) (.const (.int .i64 96)) rfl 96 rfl rfl rfl rfl (by omega) (Nat.le_refl _) ?_; intro wa owna hba; have HBA := Lib.hid hba; have HOWA := Lib.hid owna; clear hba owna; have HSW := Lib.hid (HSL1.out.below HBA.out); have hg1 := (HBA.out.cell (p := ⟨b1, o1 + k, none⟩) hbw1).trans hg1; have hbw1 : b1 < wa.heap.size := Nat.lt_of_lt_of_le hbw1 HBA.out.size)
                | fail)
              have HSM := Lib.hid (same_n (some ⟨mm, 0, none⟩) S1k.A 96 S1k.c 96 96 X C1k wa HX96.out HC1K.out (by decide) (by decide) ((Sl.of_own HOWN9.out).below HBA.out) HSW.out)
              have hBa := since_step hB9 HBA.out
              rw [decide_eq_true HXW.out] at HSM
              go_wp2_with fail
              refine HSM.out.mono ?_
              rintro e wb ⟨rfl, m1, rfl⟩
              have hBb := below_drewN hBa m1
              go_wp2_with fail
              go_roundw
              case rel => exact ⟨j + 1, by omega, by go_num, hBb⟩
              case measure => simp [intOf]; omega
            · have HXW := Lib.hid hx
              clear hx hWS
              obtain ⟨S1k, hS1k⟩ : ∃ S1k, S1[k]'HK1.out = S1k := ⟨_, rfl⟩
              rw [hS1k] at hC1k
              have HS1K := Lib.hid hS1k
              have HCC := Lib.hid hC1k
              clear hS1k hC1k
              obtain ⟨b1, o1, hA1, hbw1, hg1⟩ := (HR18.out.below hB9).1.1.rowS HK1.out
              subst hA1
              rw [HS1K.out, HCC.out, HC1K.out] at hg1
              have HSL1 := Lib.hid (((HR18.out.below hB9).2 (S1[k]'HK1.out) (List.getElem_mem HK1.out)).1)
              rw [HS1K.out, HCC.out] at HSL1
              have hz2k : k < z2 := by
                rcases HXO.out with h | h
                · exact absurd h HXW.out
                · exact h.1
              have HK2 : Hid (k < S2.length) := Lib.hid (by rw [HZ2.out]; exact hz2k)
              have HXC : Hid (X = (S2[k]'HK2.out).l) := Lib.hid (by
                rcases HXO.out with h | h
                · exact absurd h HXW.out
                · exact h.2 HK2.out)
              have hz2k2 : (k : Int) < (z2 : Int) := by omega
              clear hz2k
              go_wp2_with (first
                | (at_make; refine wpList_z8 rfl (.const (.int .i64 96)) (.const (.int .i64 96)) rfl 96 rfl rfl rfl rfl (by omega) (Nat.le_refl _) ?_; intro wa owna hba; have HBA := Lib.hid hba; have HOWA := Lib.hid owna; clear hba owna; have HSW := Lib.hid (HSL1.out.below HBA.out); have hg1 := (HBA.out.cell (p := ⟨b1, o1 + k, none⟩) hbw1).trans hg1; have hbw1 : b1 < wa.heap.size := Nat.lt_of_lt_of_le hbw1 HBA.out.size)
                | fail)
              have HSM := Lib.hid (same_n (some ⟨mm, 0, none⟩) S1k.A 96 S1k.c 96 96 X C1k wa HX96.out HC1K.out (by decide) (by decide) ((Sl.of_own HOWN9.out).below HBA.out) HSW.out)
              have hBa := since_step hB9 HBA.out
              rw [decide_eq_false HXW.out] at HSM
              go_wp2_with fail
              refine HSM.out.mono ?_
              rintro e wb ⟨rfl, m1, rfl⟩
              have hBb := below_drewN hBa m1
              have hRR2 := HR28.out.below hBb
              have hsl2 := hRR2.2 (S2[k]'HK2.out) (List.getElem_mem HK2.out)
              obtain ⟨b2, o2, hA2, hbw2, hg2⟩ := hRR2.1.1.rowS HK2.out
              subst hA2
              have h96b : (S2[k]'HK2.out).l.length = 96 := HF2.out.2.1 _ (by rw [← HM2.out]; exact List.mem_map.2 ⟨_, List.getElem_mem HK2.out, rfl⟩)
              rw [h96b] at hg2
              have HSM2 := Lib.hid (same_n (some ⟨mm, 0, none⟩) (S2[k]'HK2.out).A 96 (S2[k]'HK2.out).c 96 96 X (S2[k]'HK2.out).l (wa.drewN m1) HX96.out h96b (by decide) (by decide) (((Sl.of_own HOWN9.out).below HBA.out).drewN m1) hsl2.1)
              rw [decide_eq_true HXC.out] at HSM2
              clear hsl2 hRR2 h96b
              go_wp2_with fail
              refine HSM2.out.mono ?_
              rintro e wc ⟨rfl, m2, rfl⟩
              have hBc := below_drewN hBa (m1 + m2)
              go_wp2_with fail
              go_roundw
              case rel => exact ⟨j + 1, by omega, by go_num, hBc⟩
              case measure => simp [intOf]; omega
          · have hka2 : ¬ (k : Int) < (z1 : Int) := by omega
            have hWS : wasF p C1 j = List.replicate 96 0 := by rw [wasF, if_neg (by rw [HKJ.out, ← HS1.out]; exact fun h => hka h.2)]
            have HXO : Hid (X = (List.replicate 96 0) ∨ (k < z2 ∧ ∀ h : k < S2.length, X = S2[k].l)) := Lib.hid (by
              rcases HATE.out j hj50 with h | ⟨_, h1, h2⟩
              · rw [HX.out, HAT1.out j hj50, hWS] at h; exact .inl (Option.some.inj h)
              · rw [HKJ.out, ← HS2.out] at h1
                refine .inr ⟨h1, fun hh => ?_⟩
                rw [HX.out, HKJ.out, ← HM2.out, List.getElem?_map, List.getElem?_eq_getElem hh] at h2
                exact Option.some.inj h2)
            by_cases hx : X = (List.replicate 96 0)
            · have HXW := Lib.hid hx
              clear hx hWS
              go_wp2_with (first
                | (at_make; refine wpList_z8 rfl (.const (.int .i64 96)) (.const (.int .i64 96)) rfl 96 rfl rfl rfl rfl (by omega) (Nat.le_refl _) ?_; intro wa owna hba; have HBA := Lib.hid hba; have HOWA := Lib.hid owna; clear hba owna)
                | fail)
              have HSM := Lib.hid (same_n (some ⟨mm, 0, none⟩) (some ⟨w9.heap.size, 0, none⟩) 96 96 96 96 X (List.replicate 96 0) wa HX96.out rfl (by decide) (by decide) ((Sl.of_own HOWN9.out).below HBA.out) (Sl.of_own HOWA.out))
              have hBa := since_step hB9 HBA.out
              rw [decide_eq_true HXW.out] at HSM
              go_wp2_with fail
              refine HSM.out.mono ?_
              rintro e wb ⟨rfl, m1, rfl⟩
              have hBb := below_drewN hBa m1
              go_wp2_with fail
              go_roundw
              case rel => exact ⟨j + 1, by omega, by go_num, hBb⟩
              case measure => simp [intOf]; omega
            · have HXW := Lib.hid hx
              clear hx hWS
              have hz2k : k < z2 := by
                rcases HXO.out with h | h
                · exact absurd h HXW.out
                · exact h.1
              have HK2 : Hid (k < S2.length) := Lib.hid (by rw [HZ2.out]; exact hz2k)
              have HXC : Hid (X = (S2[k]'HK2.out).l) := Lib.hid (by
                rcases HXO.out with h | h
                · exact absurd h HXW.out
                · exact h.2 HK2.out)
              have hz2k2 : (k : Int) < (z2 : Int) := by omega
              clear hz2k
              go_wp2_with (first
                | (at_make; refine wpList_z8 rfl (.const (.int .i64 96)) (.const (.int .i64 96)) rfl 96 rfl rfl rfl rfl (by omega) (Nat.le_refl _) ?_; intro wa owna hba; have HBA := Lib.hid hba; have HOWA := Lib.hid owna; clear hba owna)
                | fail)
              have HSM := Lib.hid (same_n (some ⟨mm, 0, none⟩) (some ⟨w9.heap.size, 0, none⟩) 96 96 96 96 X (List.replicate 96 0) wa HX96.out rfl (by decide) (by decide) ((Sl.of_own HOWN9.out).below HBA.out) (Sl.of_own HOWA.out))
              have hBa := since_step hB9 HBA.out
              rw [decide_eq_false HXW.out] at HSM
              go_wp2_with fail
              refine HSM.out.mono ?_
              rintro e wb ⟨rfl, m1, rfl⟩
              have hBb := below_drewN hBa m1
              have hRR2 := HR28.out.below hBb
              have hsl2 := hRR2.2 (S2[k]'HK2.out) (List.getElem_mem HK2.out)
              obtain ⟨b2, o2, hA2, hbw2, hg2⟩ := hRR2.1.1.rowS HK2.out
              subst hA2
              have h96b : (S2[k]'HK2.out).l.length = 96 := HF2.out.2.1 _ (by rw [← HM2.out]; exact List.mem_map.2 ⟨_, List.getElem_mem HK2.out, rfl⟩)
              rw [h96b] at hg2
              have HSM2 := Lib.hid (same_n (some ⟨mm, 0, none⟩) (S2[k]'HK2.out).A 96 (S2[k]'HK2.out).c 96 96 X (S2[k]'HK2.out).l (wa.drewN m1) HX96.out h96b (by decide) (by decide) (((Sl.of_own HOWN9.out).below HBA.out).drewN m1) hsl2.1)
              rw [decide_eq_true HXC.out] at HSM2
              clear hsl2 hRR2 h96b
              go_wp2_with fail
              refine HSM2.out.mono ?_
              rintro e wc ⟨rfl, m2, rfl⟩
              have hBc := below_drewN hBa (m1 + m2)
              go_wp2_with fail
              go_roundw
              case rel => exact ⟨j + 1, by omega, by go_num, hBc⟩
              case measure => simp [intOf]; omega
        · have hpj2 : ¬ (p : Int) ≤ (j : Int) := by omega
          have hWS : wasF p C1 j = List.replicate 96 0 := by rw [wasF, if_neg (fun h => hpj h.1)]
          have HXW : Hid (X = List.replicate 96 0) := Lib.hid (by
            rcases HATE.out j hj50 with h | ⟨h, _⟩
            · rw [HX.out, HAT1.out j hj50, hWS] at h; exact Option.some.inj h
            · exact absurd h hpj)
          clear hWS hpj
          go_wp2_with (first
            | (at_make; refine wpList_z8 rfl (.const (.int .i64 96)) (.const (.int .i64 96)) rfl 96 rfl rfl rfl rfl (by omega) (Nat.le_refl _) ?_; intro wa owna hba; have HBA := Lib.hid hba; have HOWA := Lib.hid owna; clear hba owna)
            | fail)
          have HSM := Lib.hid (same_n (some ⟨mm, 0, none⟩) (some ⟨w9.heap.size, 0, none⟩) 96 96 96 96 X (List.replicate 96 0) wa HX96.out rfl (by decide) (by decide) ((Sl.of_own HOWN9.out).below HBA.out) (Sl.of_own HOWA.out))
          have hBa := since_step hB9 HBA.out
          rw [decide_eq_true HXW.out] at HSM
          go_wp2_with fail
          refine HSM.out.mono ?_
          rintro e wb ⟨rfl, m1, rfl⟩
          have hBb := below_drewN hBa m1
          go_wp2_with fail
          go_roundw
          case rel => exact ⟨j + 1, by omega, by go_num, hBb⟩
          case measure => simp [intOf]; omega
      · obtain rfl : j = 50 := by omega
        have hj4 : ¬ ((50 : Nat) : Int) < 50 := by omega
        have hj5 : ¬ (50 : Int) < 50 := by omega
        have HLi := Lib.hid (dlive_any wr hdj)
        rw [HONE.out] at HLi
        have HDJ := Lib.hid hdj
        have hBw := hB8.trans (hB.mono hB8.size)
        clear hdj
        go_wp2_with fail
        refine HLi.out.mono ?_
        rintro e w9 ⟨rfl, hb9⟩
        have hB9 := since_step hBw hb9
        have HDK := Lib.hid (HDJ.out.below hb9)
        clear hb9 HDJ
        go_wp2_with fail
        refine (was6_any _).mono ?_
        rintro e wA ⟨⟨m, rfl, ownm⟩, hbA⟩
        have hBA := since_step hB9 hbA
        have HWO := Lib.hid (dwrite_off 0 (some ⟨wA.heap.size, 0, none⟩) 1 1 _ ((HDK.out.below hbA).below ((Below.refl _ wA).alloc (Nat.le_refl _) (.cells #[.slice (some ⟨m, 0, none⟩) 96 96] 34))) HONE.out)
        have hBA2 := since_alloc hBA (.cells #[.slice (some ⟨m, 0, none⟩) 96 96] 34)
        clear ownm hbA hBA
        go_wp2_with fail
        refine HWO.out.mono ?_
        rintro e wB ⟨rfl, hbB⟩
        have hBB := since_step hBA2 hbB
        go_wp2_with fail
        refine (HLV.out _).mono ?_
        rintro e w10 ⟨rfl, hb10⟩
        have hB10 := since_step hBB hb10
        go_wp2_with fail
        go_ret
        exact ⟨rfl, hB10⟩
end Go.Proofs.Ytbjfdphhopembaa
