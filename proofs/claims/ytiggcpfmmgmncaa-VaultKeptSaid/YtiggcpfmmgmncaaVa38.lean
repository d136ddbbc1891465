import Derived.Test.YtiggcpfmmgmncaaVa36
import Derived.Test.YtiggcpfmmgmncaaVa37
section
namespace Go.Proofs.Ytiggcpfmmgmncaa
open Go.ChangeShapes Go.WideShapes Go.ChangeAt Go.RowKit
set_option linter.unusedVariables false
set_option linter.unusedSimpArgs false

theorem blkV_lt {B B2 b g kc v h s c k : Nat} {K A SA : Option Addr} {d : Dv} {R : List (RowS Nat)} {x : Vv} {w : World} (hd : DrA B w b g K kc d) (hv : VaA B2 w v h s b A c R SA k x) : ∀ y ∈ blkV b g h s (x.sc.row A c), y < w.heap.size := fun y hy => by
  rcases List.mem_cons.1 hy with e | hy
  · rw [e]; exact (Array.getElem?_eq_some_iff.1 hv.hb).1
  · exact blk8_lt hd hv.sc y hy
theorem blkV_ge {B b g kc v h s c k : Nat} {K A SA : Option Addr} {d : Dv} {R : List (RowS Nat)} {x : Vv} {w : World} (hd : DrA B w b g K kc d) (hv : VaA B w v h s b A c R SA k x) : ∀ y ∈ blkV b g h s (x.sc.row A c), B ≤ y := fun y hy => by
  rcases List.mem_cons.1 hy with e | hy
  · rw [e]; exact hv.ge.2
  · exact blk8_ge hd hv.sc y hy
theorem blkV_new {b g h h2 s s2 : Nat} {v v' : Value} {w : World} (hh : w.heap.size ≤ h2) (hs : w.heap.size ≤ s2) (hv : ∀ k, v'.ownBlock = some k → w.heap.size ≤ k) : ∀ y ∈ blkV b g h2 s2 v', y ∈ blkV b g h s v ∨ w.heap.size ≤ y := fun y hy => by
  rcases List.mem_cons.1 hy with e | hy
  · exact .inr (by rw [e]; exact hh)
  · rcases blk8_new (v := v) (s := s) hs hv y hy with h1 | h1
    · exact .inl (List.mem_cons_of_mem _ h1)
    · exact .inr h1
theorem chg2_blkV {b g h s : Nat} {v : Value} {w w' : World} (hc : Chg2 b g w w') : ChgL (blkV b g h s v) w w' := ChgL.of2 hc (by simp [blkV, blk8]) (by simp [blkV, blk8])
theorem Sc.app_t {x : Sc} {d : Dv} {l : List Nat} : (x.app d l).1.1.t = x.t ∧ (x.app d l).1.2.S.length = d.S.length := by
  unfold Sc.app
  split
  · exact ⟨rfl, rfl⟩
  · split
    · exact ⟨rfl, rfl⟩
    · split
      · exact ⟨rfl, rfl⟩
      · split
        · exact ⟨rfl, Dv.write_len⟩
        · exact ⟨rfl, Dv.write_len⟩
structure U10 (d : Dv) (x : Vv) (M : Int) : Prop where
  len : d.S.length = 40
  t : x.sc.t ≤ 40
  each : x.each = 5
  er : 0 ≤ x.era ∧ x.era ≤ M
theorem U10.app {d : Dv} {x : Vv} {M : Int} (h : U10 d x M) {l : List Nat} {M2 : Int} (hM : M ≤ M2) {x' : Vv} {D : Dv} {z : Int} (e : x.app d l = ((x', D), z)) : U10 D x' M2 := by
  have hx : x' = (x.app d l).1.1 := by rw [e]
  have hD : D = (x.app d l).1.2 := by rw [e]
  rw [hx, hD]
  obtain ⟨h1, h2, h3, h4, h5⟩ := h
  unfold Vv.app
  split
  · exact ⟨h1, h2, h3, h4, by show x.era ≤ M2; omega⟩
  · exact ⟨by show (x.sc.app d l).1.2.S.length = 40; rw [Sc.app_t.2]; exact h1, by show (x.sc.app d l).1.1.t ≤ 40; rw [Sc.app_t.1]; exact h2, h3, h4, by show x.era ≤ M2; omega⟩
theorem U10.compact {d : Dv} {x : Vv} {M : Int} (h : U10 d x M) {l : List Nat} {M2 : Int} (hM : M + 1 ≤ M2) {x' : Vv} {D : Dv} {z : Int} (e : x.compact d l = ((x', D), z)) : U10 D x' M2 := by
  have hx : x' = (x.compact d l).1.1 := by rw [e]
  have hD : D = (x.compact d l).1.2 := by rw [e]
  rw [hx, hD]
  obtain ⟨h1, h2, h3, h4, h5⟩ := h
  unfold Vv.compact
  split
  · exact ⟨h1, h2, h3, h4, by show x.era ≤ M2; omega⟩
  · unfold Vv.comp
    split
    · exact ⟨h1, h2, h3, h4, by show x.era ≤ M2; omega⟩
    · split
      · exact ⟨by show (d.save 0 x.each x.life (x.era + 1) l).1.S.length = 40; rw [Dv.save_len]; exact h1, h2, h3, h4, by show x.era ≤ M2; omega⟩
      · exact ⟨by show (d.save 0 x.each x.life (x.era + 1) l).1.S.length = 40; rw [Dv.save_len]; exact h1, by show (d.save 0 x.each x.life (x.era + 1) l).1.S.length ≤ 40; rw [Dv.save_len, h1]; exact Nat.le_refl _, h3, by show 0 ≤ x.era + 1; omega, by show x.era + 1 ≤ M2; omega⟩
theorem save_off {d : Dv} {p each : Nat} {life era : Int} {l : List Nat} (h : d.on = false) : (d.save p each life era l).2 ≠ 0 := by
  unfold Dv.save
  split
  · exact (by decide : (2 : Int) ≠ 0)
  · split
    · assumption
    · split
      · exact (by decide : (10 : Int) ≠ 0)
      · unfold Dv.write
        rw [if_neg (by rw [h]; decide)]
        exact (by decide : (9 : Int) ≠ 0)
theorem app_off {d : Dv} {x : Vv} {l : List Nat} (h : d.on = false) : x.app d l = ((x, d), 9) := by unfold Vv.app; rw [if_pos (Or.inr h)]
theorem compact_off {d : Dv} {x : Vv} {l : List Nat} (h : d.on = false) : x.compact d l = ((x, d), 9) := by unfold Vv.compact; rw [if_pos (Or.inr h)]
theorem fuse_S {d : Dv} {n : Int} {l : List Nt} : (d.fuse n l).1.S = d.S ∧ (d.fuse n l).1.on = d.on := by
  unfold Dv.fuse
  split
  · rename_i h
    split
    · exact ⟨rfl, h.symm⟩
    · exact ⟨rfl, h.symm⟩
  · exact ⟨rfl, rfl⟩
theorem K10.fuse {d : Dv} {x : Vv} {M M2 : Int} {state stateM : List Nat} {was maybe : List (List Nat)} (h : K10 d x M state was stateM maybe) (hM : M ≤ M2) (n : Int) (l : List Nt) : K10 (d.fuse n l).1 x M2 state was stateM maybe := by
  obtain ⟨e1, e2⟩ := @fuse_S d n l
  refine ⟨fun ho => ?_, fun ho => ?_, ?_⟩
  · rw [e2] at ho
    obtain ⟨era, h1, h2⟩ := h.on ho
    exact ⟨era, by omega, a10_fuse h2 n l⟩
  · rw [e2] at ho
    obtain ⟨era, st, X, h1, h2, h3⟩ := h.off ho
    exact ⟨era, st, X, by omega, by rw [e1]; exact h2, h3⟩
  · have := h.life; exact ⟨this.1, by omega⟩
theorem K10.up {d : Dv} {x : Vv} {M M2 : Int} {state stateM : List Nat} {was maybe : List (List Nat)} (h : K10 d x M state was stateM maybe) (hM : M ≤ M2) : K10 d x M2 state was stateM maybe :=
  ⟨fun ho => (h.on ho).imp (fun era h1 => ⟨by omega, h1.2⟩), fun ho => by obtain ⟨era, st, X, h1, h2⟩ := h.off ho; exact ⟨era, st, X, by omega, h2⟩, by have := h.life; exact ⟨this.1, by omega⟩⟩
theorem K10.app {d : Dv} {x : Vv} {M M2 : Int} {state stateM : List Nat} {was maybe : List (List Nat)} (h : K10 d x M state was stateM maybe) (hM : M ≤ M2) (hM2 : M ≤ 1000) (hon : d.on = true) {b : List Nat} (hb : b.length ≤ 250) (hw : was.length ≤ 1000) :
    (x.app d b = ((x, d), 10)) ∨ (∃ x' D, x.app d b = ((x', D), 9) ∧ x'.sc.L = was ∧ K10 D x' M2 state was state (was ++ [b])) ∨ (∃ x' D, x.app d b = ((x', D), 0) ∧ x'.sc.L = was ++ [b] ∧ K10 D x' M2 state (was ++ [b]) state (was ++ [b])) := by
  obtain ⟨era, he, hA⟩ := h.on hon
  have hl := h.life
  rcases hA.app hon hb hl.1 (by omega) (by omega) (by omega) with e | ⟨x', D, e, hoff, hlf, hsl, hd⟩ | ⟨x', D, e, hon2, hlf, hA2⟩
  · exact .inl e
  · refine .inr (.inl ⟨x', D, e, hsl, fun ho => (by rw [hoff] at ho; cases ho), fun _ => ?_, by rw [hlf]; exact ⟨hl.1, by omega⟩⟩)
    rw [hlf]
    rcases hd with hd | hd
    · exact ⟨era, _, _, by omega, hd, .inl ⟨rfl, rfl⟩⟩
    · exact ⟨era, _, _, by omega, hd, .inr ⟨rfl, rfl⟩⟩
  · refine .inr (.inr ⟨x', D, e, ?_, fun _ => ⟨era, by omega, hA2⟩, fun ho => (by rw [hon2] at ho; cases ho), by rw [hlf]; exact ⟨hl.1, by omega⟩⟩)
    obtain ⟨q, ml, hsc, _⟩ := hA2.sc
    rw [hsc]
theorem K10.compact {d : Dv} {x : Vv} {M M2 : Int} {state stateM : List Nat} {was maybe : List (List Nat)} (h : K10 d x M state was stateM maybe) (hM : M + 1 ≤ M2) (hM2 : M ≤ 1000) (hon : d.on = true) {b : List Nat} (hb : b.length ≤ 250) :
    ((d.save 0 x.each x.life (x.era + 1) b).2 = 0 → newestN (d.save 0 x.each x.life (x.era + 1) b).1.S (2 * x.each) ((d.save 0 x.each x.life (x.era + 1) b).1.S.length - 2 * x.each) < x.life + 1) ∧
    ((∃ x' D, x.compact d b = ((x', D), 9) ∧ x'.sc.L = was ∧ K10 D x' M2 state was b []) ∨ (∃ x' D, x.compact d b = ((x', D), 0) ∧ x'.sc.L = [] ∧ K10 D x' M2 b [] b [])) := by
  obtain ⟨era, he, hA⟩ := h.on hon
  have hl := h.life
  obtain ⟨hn, hw⟩ := hA.compact hon hb hl.1 (by omega) (by omega)
  refine ⟨hn, ?_⟩
  rcases hw with ⟨x', D, e, hoff, hlf, hsl, hd⟩ | ⟨x', D, e, hon2, hlf, hA2⟩
  · refine .inl ⟨x', D, e, hsl, fun ho => (by rw [hoff] at ho; cases ho), fun _ => ?_, by rw [hlf]; exact ⟨hl.1, by omega⟩⟩
    rw [hlf]
    rcases hd with hd | hd
    · exact ⟨era, _, _, by omega, hd, .inl ⟨rfl, rfl⟩⟩
    · exact ⟨era + 1, _, _, by omega, hd, .inr ⟨rfl, rfl⟩⟩
  · refine .inr ⟨x', D, e, ?_, fun _ => ⟨era + 1, by omega, hA2⟩, fun ho => (by rw [hon2] at ho; cases ho), by rw [hlf]; omega⟩
    obtain ⟨q, ml, hsc, _⟩ := hA2.sc
    rw [hsc]
set_option maxHeartbeats 16000000 in
set_option maxRecDepth 100000 in
theorem walk_VaultKept (a0 : Option Addr) (n0 c0 : Nat) (w : World) (w0 : Rd w (.sl (.cat (.int .i64) (.cat (.int .i64) (.cat (.sl (.int .u8)) (.cat (.sl (.int .i64)) .nil))))) [.slice a0 n0 c0]) :
    Calls Try.prog 10 #[.slice a0 n0 c0] w fun e w' => e = .returned (.bool true) ∧ Below w.heap.size w w' := by
  obtain ⟨L, rfl, h0c, h0m, h0s, h0p⟩ := rd_rowsP (f := Do8.cells) (p := fun x => x.Ok w) (fun r => rd_do8) w0
  have HLV := Lib.hid (fun V => lives10_any V)
  have HN := Lib.hid (dnew_any 40 w (by decide) (by decide))
  have HAT := Lib.hid (fun k (hk : k < L.length) => Sl.elem (m := 4) Do8.len (by decide) h0s hk)
  have HPP := Lib.hid (fun k (hk : k < L.length) => h0p L[k] (List.getElem_mem hk))
  clear w0 h0c h0m h0s h0p
  go_enter Try.func10, Try.ntmps10
  go_wp2_with fail
  refine HN.out.mono ?_
  rintro e v1 ⟨b, g, rfl, hdw, hb1⟩
  have HGE : Hid (w.heap.size ≤ b ∧ w.heap.size ≤ g) := Lib.hid (by obtain ⟨K, kc, h⟩ := hdw; exact h.ge)
  obtain ⟨K1, kc1, hd1⟩ := hdw
  have HDW1 := Lib.hid hd1
  have HB1 := Lib.hid hb1
  have hO := vopen_ok 5 v1 HDW1.out HB1.out.size (by decide) (by simp [Dv.new]) (by have := newest_le (M := 0) (Int.le_refl 0) (fun i f h => by rw [frD_new] at h; cases h) 0 (Dv.new 40).S.length (S := (Dv.new 40).S); omega)
  have HOP := Lib.hid hO
  have HA0 := Lib.hid d10_new.open
  clear hd1 hb1 HN hO
  go_wp2_with fail
  refine HOP.out.mono ?_
  rintro e v2 ⟨v, h, s, A, c, R, SA, sk, rfl, hs2, hb2, hsz2, hrow2⟩
  have HB2 := Lib.hid (since_step HB1.out hb2)
  have HD2 := Lib.hid (HDW1.out.below hb2)
  have HS2 := Lib.hid hs2
  clear hs2 hb2 hsz2 hrow2 HOP
  go_wp2_with fail
  go_loopw [5, 7, 8, 9, 10, 11] (fun vv tv uv wv mv iv wr => ∃ (k : Nat) (d : Dv) (x : Vv) (v h s : Nat) (A : Option Addr) (c : Nat) (R : List (RowS Nat)) (SA : Option Addr) (sk : Nat) (TA : Option Addr) (tc : Nat) (st : List Nat) (UA : Option Addr) (uc : Nat) (su : List Nat) (WA : Option Addr) (wc : Nat) (RW : List (RowS Nat)) (MA : Option Addr) (mc : Nat) (RM : List (RowS Nat)), k ≤ L.length ∧ k ≤ 30 ∧ vv = .pointer (some ⟨v, 0, none⟩) ∧ tv = .slice TA st.length tc ∧ uv = .slice UA su.length uc ∧ wv = .slice WA RW.length wc ∧ mv = .slice MA RM.length mc ∧ iv = .int .i64 k ∧ Hid (DrW w.heap.size wr b g d) ∧ Hid (VaA w.heap.size wr v h s b A c R SA sk x) ∧ Hid (K10 d x ((k + 1 : Nat) : Int) st (RW.map RowS.l) su (RM.map RowS.l)) ∧ Hid (U10 d x ((k + 1 : Nat) : Int)) ∧ Hid (SlX (blkV b g h s (x.sc.row A c)) wr TA (by8 st)) ∧ Hid (SlX (blkV b g h s (x.sc.row A c)) wr UA (by8 su)) ∧ Hid (RowsX (blkV b g h s (x.sc.row A c)) wr WA RW) ∧ Hid (RowsX (blkV b g h s (x.sc.row A c)) wr MA RM) ∧ Hid (RW.length ≤ k ∧ RM.length ≤ k ∧ x.sc.L.length ≤ k ∧ (∀ r ∈ RW, r.l.length ≤ 250) ∧ (∀ r ∈ RM, r.l.length ≤ 250) ∧ st.length ≤ 250 ∧ su.length ≤ 250) ∧ Below w.heap.size w wr) (fun _ _ _ _ _ iv _ => 30 - (intOf iv).toNat)
  case atStart =>
    obtain ⟨a1, a2, a3⟩ := HA0.out
    have hVL : (openV (Dv.new 40).S 5).sc.L.length ≤ 0 := by obtain ⟨q, ml, hsc, _⟩ := a1.sc; rw [hsc]; exact Nat.le_refl _
    exact ⟨0, Dv.new 40, openV (Dv.new 40).S 5, v, h, s, A, c, R, SA, sk, none, 0, [], none, 0, [], none, 0, [], none, 0, [], Nat.zero_le _, Nat.zero_le _, rfl, rfl, rfl, rfl, rfl, rfl, ⟨_, _, HD2.out⟩, HS2, Lib.hid ⟨fun _ => ⟨0, by decide, a1⟩, fun ho => absurd ho (by decide), a3, by have : (openV (Dv.new 40).S 5).life ≤ 0 + 1 := a2; omega⟩, Lib.hid ⟨by simp [Dv.new], by obtain ⟨q, ml, hsc, _⟩ := a1.sc; rw [hsc]; exact Nat.le_refl _, rfl, by rw [a1.er]; decide, by rw [a1.er]; decide⟩, SlX.nil, SlX.nil, RowsX.nil, RowsX.nil, ⟨Nat.le_refl _, Nat.le_refl _, hVL, (fun r hr => by cases hr), (fun r hr => by cases hr), Nat.zero_le _, Nat.zero_le _⟩, HB2.out⟩
  case round =>
    clear HB1 HDW1 HB2 HD2 HS2
    obtain ⟨k, d, x, v, h, s, A, c, R, SA, sk, TA, tc, st, UA, uc, su, WA, wc, RW, MA, mc, RM, hk, hk40, rfl, rfl, rfl, rfl, rfl, rfl, HDW, HVV, HK, HU, HTS, HUS, HWS, HMS, HLN, hBW⟩ := hrel
    by_cases hlt : k < L.length
    · by_cases h40 : k < 30
      · have hlk1 : (k : Int) < (L.length : Int) := by omega
        have hlk2 : (k : Int) < 30 := by omega
        have hgk : (0 : Int) ≤ (k : Int) := by omega
        obtain ⟨bb, oo, hA, hbw, hcells⟩ := HAT.out k hlt
        have hOk := HPP.out k hlt
        obtain ⟨xx, hx⟩ : ∃ x, L[k] = x := ⟨_, rfl⟩
        rw [hx] at hcells hOk
        clear hx
        obtain ⟨kind, n, BA, bc, B, KA, kkc, KK⟩ := xx
        obtain ⟨o0, o1, o2, o3, o4, o5, o6, o7⟩ := hOk
        simp only at o0 o1 o2 o3 o4 o5 o6 o7
        have HG : Hid (w.cell? ⟨bb, oo + k * 4, none⟩ = some (.int .i64 kind) ∧ w.cell? ⟨bb, oo + k * 4 + 1, none⟩ = some (.int .i64 n) ∧ w.cell? ⟨bb, oo + k * 4 + 2, none⟩ = some (.slice BA B.length bc) ∧ w.cell? ⟨bb, oo + k * 4 + 3, none⟩ = some (.slice KA KK.length kkc)) := Lib.hid ⟨hcells 0 _ rfl, hcells 1 _ rfl, hcells 2 _ rfl, hcells 3 _ rfl⟩
        obtain ⟨BL, hBL⟩ : ∃ BL, B.take 250 = BL := ⟨_, rfl⟩
        obtain ⟨m, hm⟩ : ∃ m, min B.length 250 = m := ⟨_, rfl⟩
        have HBM : Hid (BL.length = m) := Lib.hid (by rw [← hBL, ← hm, List.length_take, Nat.min_comm])
        have HBF : Hid (BL.length ≤ bc ∧ bc ≤ maxLen ∧ BL.length ≤ 100000 ∧ Oct BL) := Lib.hid ⟨by rw [HBM.out, ← hm]; omega, o2, by rw [HBM.out, ← hm]; omega, by rw [← hBL]; exact o4.take 250⟩
        have HB250 : Hid (BL.length ≤ 250) := Lib.hid (by rw [HBM.out, ← hm]; omega)
        have hslB : Sl w BA (by8 BL) := by rw [← hBL, by8_take]; exact o3.take 250
        have HBS := Lib.hid (fun V (hV : Below w.heap.size w V) => hslB.below hV)
        have HBLT := Lib.hid hslB.lt
        obtain ⟨KL, hKL⟩ : ∃ KL, KK.take 20 = KL := ⟨_, rfl⟩
        have hslK : Sl w KA (rc Nt.cells KL) := by
          have := o7.take (20 * 1)
          rw [rc_take Nt.len, hKL] at this
          exact this
        have HKS := Lib.hid (fun V (hV : Below w.heap.size w V) => hslK.below hV)
        have HKA := Lib.hid hslK.lt
        have HKL : Hid (KL.length ≤ 1000000) := Lib.hid (by rw [← hKL, List.length_take]; omega)
        have HNB := Lib.hid o0
        have HCUT := Lib.hid (fun V => cut_any BA B.length bc 250 V (by unfold maxLen at o2; omega) (by omega) o1 (by unfold maxLen at o2; omega))
        rw [hm] at HCUT
        have HFEW := Lib.hid (fun V => few8_any KA KK.length kkc V (by unfold maxLen at o6; omega) o5 (by unfold maxLen at o6; omega))
        rw [show min KK.length 20 = KL.length by rw [← hKL, List.length_take, Nat.min_comm]] at HFEW
        have hcell2 := (hBW.cell (p := ⟨bb, oo + k * 4 + 2, none⟩) hbw).trans HG.out.2.2.1
        have hcell0 := (hBW.cell (p := ⟨bb, oo + k * 4, none⟩) hbw).trans HG.out.1
        have hbwr : bb < wr.heap.size := Nat.lt_of_lt_of_le hbw hBW.size
        subst hA
        obtain ⟨K0, kc0, hd0⟩ := HDW.out
        have HD := Lib.hid hd0
        have HBW := Lib.hid hBW
        have HBW2 := Lib.hid hbw
        clear o0 o1 o2 o3 o4 o5 o6 o7 hcells hBL hm hslB hKL hslK hd0 hBW hbw
        go_wp2_with fail
        refine (HCUT.out wr).mono ?_
        rintro e x1 ⟨rfl, rfl⟩
        have HLIV0 := Lib.hid (dlive_eq wr HD.out)
        go_wp2_with fail
        refine HLIV0.out.mono ?_
        rintro e x1 ⟨rfl, hx1⟩
        rw [hx1]
        clear hx1 x1
        by_cases hkind : kind = 0
        · have hk0 : (kind == 0) = true := by simpa using hkind
          clear hkind
          cases hon : d.on with
          | false =>
            have happ : x.app d BL = ((x, d), 9) := app_off hon
            have HON := Lib.hid hon
            clear hon
            have hA := vapp_any BA bc BL wr HVV.out HD.out HBW.out.size HBF.out.1 HBF.out.2.1 HBF.out.2.2.1 (SlF.of_old (HBS.out _ HBW.out) HBLT.out HGE.out.1 HGE.out.2) HBF.out.2.2.2 (by rw [HU.out.len]; exact HU.out.t) (by have := HLN.out; omega)
            rw [happ] at hA
            simp only at hA
            rw [HBM.out] at hA
            have HAPP := Lib.hid hA
            clear hA happ
            go_wp2_with fail
            refine HAPP.out.mono ?_
            rintro e x2 ⟨rfl, s2, A2, c2, R2, SA2, k2, hv2, hd2, hc2, hgr2⟩
            have HD2 := Lib.hid hd2
            have HV2 := Lib.hid hv2
            have HB2 := Lib.hid (HBW.out.trans (hc2.below HBW.out.size (fun y hy => blkV_ge HD.out HVV.out y hy)))
            have HWS2 := Lib.hid (HWS.out.chg hc2 hgr2)
            have HMS2 := Lib.hid (HMS.out.chg hc2 hgr2)
            have HTS2 := Lib.hid (HTS.out.chg hc2 hgr2)
            have HUS2 := Lib.hid (HUS.out.chg hc2 hgr2)
            clear hv2 hd2 hc2 hgr2 HAPP HDW HD HVV HWS HMS HTS HUS
            go_upto_region 21 with (first
              | (at_builtin; refine wpList_app3 rfl (.tmp 67) (.tmp 68) rfl EDR rfl rfl (own_nil x2.heap.size _ _) (m := RW.length) (news := rc RowS.cells RW) (by rw [rc_length RowS.len, Nat.mul_one]) HWS2.out.1.sl (rc_one (fun r u hu => by simp only [RowS.cells, List.mem_cons, List.not_mem_nil, or_false] at hu; subst hu; rfl) _) (by have := HLN.out; unfold maxLen; omega) (by have := HLN.out; omega) (Nat.le_refl _) ?_; intro A5 c5 w5 own5 hg5 hv5 hb5)
              | fail)
            simp only [Nat.zero_add, List.nil_append] at own5 ⊢
            have HO5 := Lib.hid own5
            have HB5 := Lib.hid hb5
            clear own5 hg5 hv5 hb5
            go_upto_region 23 with (first
              | (at_builtin; refine wpList_app rfl (.tmp 70) (.tmp 72) rfl EDR rfl rfl (HO5.out.alloc _) (m := 1) (news := [.slice BA m bc]) rfl (Sl.new_ _ _ _) (fun u hu => by simp only [List.mem_cons, List.not_mem_nil, or_false] at hu; subst hu; rfl) (by have := HLN.out; unfold maxLen; omega) (by have := HLN.out; omega) (by simp only [World.size_alloc]; have := HB5.out.size; omega) ?_; intro A6 c6 w6 own6 hg6 hb6)
              | fail)
            have hB6 : Below x2.heap.size x2 w6 := (HB5.out.alloc HB5.out.size _).trans hb6
            have HB7 := Lib.hid (HB2.out.trans (hB6.mono HB2.out.size))
            have hcells : rc RowS.cells (RW ++ [(⟨BA, bc, BL⟩ : RowS Nat)]) = rc RowS.cells RW ++ [.slice BA m bc] := by
              rw [rc_append]
              show rc RowS.cells RW ++ [.slice BA BL.length bc] = _
              rw [HBM.out]
            have hlen6 : (RW ++ [(⟨BA, bc, BL⟩ : RowS Nat)]).length = RW.length + 1 := by rw [List.length_append]; rfl
            have hrb : SlX (blkV b g h s2 (x.sc.row A2 c2)) x2 BA (by8 BL) := SlX.old (HBS.out _ HB2.out) HBLT.out HB2.out.size (fun y hy => blkV_ge HD2.out HV2.out y hy)
            have hMN : RowsX (blkV b g h s2 (x.sc.row A2 c2)) w6 A6 (RW ++ [(⟨BA, bc, BL⟩ : RowS Nat)]) := RowsX.snoc (c := c6) (B := x2.heap.size) HWS2.out hrb hB6 (by rw [hcells, hlen6]; exact own6) (blkV_lt HD2.out HV2.out)
            have HMN := Lib.hid hMN
            have HLEN6 := Lib.hid hlen6
            have HD6 := Lib.hid (HD2.out.below hB6)
            have HV6 := Lib.hid (HV2.out.below hB6)
            have HW6 := Lib.hid (HWS2.out.below hB6)
            have HM6 := Lib.hid (HMS2.out.below hB6)
            have HT6 := Lib.hid (HTS2.out.below hB6)
            have HU6 := Lib.hid (HUS2.out.below hB6)
            have HLR : Hid (∀ r ∈ RW ++ [(⟨BA, bc, BL⟩ : RowS Nat)], r.l.length ≤ 250) := Lib.hid (fun r hr => by
              rcases List.mem_append.1 hr with h1 | h1
              · exact HLN.out.2.2.2.1 r h1
              · rw [List.mem_singleton] at h1; subst h1; exact HB250.out)
            clear hB6 hcells hlen6 hrb hMN own6 hg6 hb6 HO5 HB5
            go_wp2_with fail
            go_roundw
            case rel => exact ⟨k + 1, d, x, v, h, s2, A2, c2, R2, SA2, k2, TA, tc, st, UA, uc, su, WA, wc, RW, MA, mc, RM, by omega, by omega, rfl, rfl, rfl, rfl, rfl, by go_num, ⟨_, _, HD6.out⟩, HV6, Lib.hid (HK.out.up (by omega)), Lib.hid (by have := HU.out; exact ⟨this.len, this.t, this.each, this.er.1, by have := this.er.2; omega⟩), HT6, HU6, HW6, HM6, Lib.hid (by have := HLN.out; exact ⟨by omega, by omega, by omega, this.2.2.2⟩), HB7.out⟩
            case measure => simp [intOf]; omega
          | true =>
            have HON := Lib.hid hon
            rcases HK.out.app (M2 := ((k + 1 + 1 : Nat) : Int)) (by omega) (by omega) hon HB250.out (by rw [List.length_map]; have := HLN.out; omega) with happ | ⟨x', D, happ, hxl, hkn⟩ | ⟨x', D, happ, hxl, hkn⟩
            · clear hon
              have hA := vapp_any BA bc BL wr HVV.out HD.out HBW.out.size HBF.out.1 HBF.out.2.1 HBF.out.2.2.1 (SlF.of_old (HBS.out _ HBW.out) HBLT.out HGE.out.1 HGE.out.2) HBF.out.2.2.2 (by rw [HU.out.len]; exact HU.out.t) (by have := HLN.out; omega)
              rw [happ] at hA
              simp only at hA
              rw [HBM.out] at hA
              have HAPP := Lib.hid hA
              clear hA happ
              go_wp2_with fail
              refine HAPP.out.mono ?_
              rintro e x2 ⟨rfl, s2, A2, c2, R2, SA2, k2, hv2, hd2, hc2, hgr2⟩
              have HD2 := Lib.hid hd2
              have HV2 := Lib.hid hv2
              have HB2 := Lib.hid (HBW.out.trans (hc2.below HBW.out.size (fun y hy => blkV_ge HD.out HVV.out y hy)))
              have HWS2 := Lib.hid (HWS.out.chg hc2 hgr2)
              have HMS2 := Lib.hid (HMS.out.chg hc2 hgr2)
              have HTS2 := Lib.hid (HTS.out.chg hc2 hgr2)
              have HUS2 := Lib.hid (HUS.out.chg hc2 hgr2)
              clear hv2 hd2 hc2 hgr2 HAPP HDW HD HVV HWS HMS HTS HUS
              go_upto_region 21 with (first
                | (at_builtin; refine wpList_app3 rfl (.tmp 67) (.tmp 68) rfl EDR rfl rfl (own_nil x2.heap.size _ _) (m := RW.length) (news := rc RowS.cells RW) (by rw [rc_length RowS.len, Nat.mul_one]) HWS2.out.1.sl (rc_one (fun r u hu => by simp only [RowS.cells, List.mem_cons, List.not_mem_nil, or_false] at hu; subst hu; rfl) _) (by have := HLN.out; unfold maxLen; omega) (by have := HLN.out; omega) (Nat.le_refl _) ?_; intro A5 c5 w5 own5 hg5 hv5 hb5)
                | fail)
              simp only [Nat.zero_add, List.nil_append] at own5 ⊢
              have HO5 := Lib.hid own5
              have HB5 := Lib.hid hb5
              clear own5 hg5 hv5 hb5
              go_upto_region 23 with (first
                | (at_builtin; refine wpList_app rfl (.tmp 70) (.tmp 72) rfl EDR rfl rfl (HO5.out.alloc _) (m := 1) (news := [.slice BA m bc]) rfl (Sl.new_ _ _ _) (fun u hu => by simp only [List.mem_cons, List.not_mem_nil, or_false] at hu; subst hu; rfl) (by have := HLN.out; unfold maxLen; omega) (by have := HLN.out; omega) (by simp only [World.size_alloc]; have := HB5.out.size; omega) ?_; intro A6 c6 w6 own6 hg6 hb6)
                | fail)
              have hB6 : Below x2.heap.size x2 w6 := (HB5.out.alloc HB5.out.size _).trans hb6
              have HB7 := Lib.hid (HB2.out.trans (hB6.mono HB2.out.size))
              have hcells : rc RowS.cells (RW ++ [(⟨BA, bc, BL⟩ : RowS Nat)]) = rc RowS.cells RW ++ [.slice BA m bc] := by
                rw [rc_append]
                show rc RowS.cells RW ++ [.slice BA BL.length bc] = _
                rw [HBM.out]
              have hlen6 : (RW ++ [(⟨BA, bc, BL⟩ : RowS Nat)]).length = RW.length + 1 := by rw [List.length_append]; rfl
              have hrb : SlX (blkV b g h s2 (x.sc.row A2 c2)) x2 BA (by8 BL) := SlX.old (HBS.out _ HB2.out) HBLT.out HB2.out.size (fun y hy => blkV_ge HD2.out HV2.out y hy)
              have hMN : RowsX (blkV b g h s2 (x.sc.row A2 c2)) w6 A6 (RW ++ [(⟨BA, bc, BL⟩ : RowS Nat)]) := RowsX.snoc (c := c6) (B := x2.heap.size) HWS2.out hrb hB6 (by rw [hcells, hlen6]; exact own6) (blkV_lt HD2.out HV2.out)
              have HMN := Lib.hid hMN
              have HLEN6 := Lib.hid hlen6
              have HD6 := Lib.hid (HD2.out.below hB6)
              have HV6 := Lib.hid (HV2.out.below hB6)
              have HW6 := Lib.hid (HWS2.out.below hB6)
              have HM6 := Lib.hid (HMS2.out.below hB6)
              have HT6 := Lib.hid (HTS2.out.below hB6)
              have HU6 := Lib.hid (HUS2.out.below hB6)
              have HLR : Hid (∀ r ∈ RW ++ [(⟨BA, bc, BL⟩ : RowS Nat)], r.l.length ≤ 250) := Lib.hid (fun r hr => by
                rcases List.mem_append.1 hr with h1 | h1
                · exact HLN.out.2.2.2.1 r h1
                · rw [List.mem_singleton] at h1; subst h1; exact HB250.out)
              clear hB6 hcells hlen6 hrb hMN own6 hg6 hb6 HO5 HB5
              go_wp2_with fail
              go_roundw
              case rel => exact ⟨k + 1, d, x, v, h, s2, A2, c2, R2, SA2, k2, TA, tc, st, UA, uc, su, WA, wc, RW, MA, mc, RM, by omega, by omega, rfl, rfl, rfl, rfl, rfl, by go_num, ⟨_, _, HD6.out⟩, HV6, Lib.hid (HK.out.up (by omega)), Lib.hid (by have := HU.out; exact ⟨this.len, this.t, this.each, this.er.1, by have := this.er.2; omega⟩), HT6, HU6, HW6, HM6, Lib.hid (by have := HLN.out; exact ⟨by omega, by omega, by omega, this.2.2.2⟩), HB7.out⟩
              case measure => simp [intOf]; omega
            · have HKN : Hid (K10 D x' ((k + 1 + 1 : Nat) : Int) st (RW.map RowS.l) st ((RW ++ [(⟨BA, bc, BL⟩ : RowS Nat)]).map RowS.l)) := Lib.hid (by rw [List.map_append]; exact hkn)
              have HXL := Lib.hid (show x'.sc.L = RW.map RowS.l from hxl)
              have HUN : Hid (U10 D x' ((k + 1 + 1 : Nat) : Int)) := Lib.hid (HU.out.app (by omega) happ)
              clear hon hkn hxl
              have hA := vapp_any BA bc BL wr HVV.out HD.out HBW.out.size HBF.out.1 HBF.out.2.1 HBF.out.2.2.1 (SlF.of_old (HBS.out _ HBW.out) HBLT.out HGE.out.1 HGE.out.2) HBF.out.2.2.2 (by rw [HU.out.len]; exact HU.out.t) (by have := HLN.out; omega)
              rw [happ] at hA
              simp only at hA
              rw [HBM.out] at hA
              have HAPP := Lib.hid hA
              clear hA happ
              go_wp2_with fail
              refine HAPP.out.mono ?_
              rintro e x2 ⟨rfl, s2, A2, c2, R2, SA2, k2, hv2, hd2, hc2, hgr2⟩
              have HD2 := Lib.hid hd2
              have HV2 := Lib.hid hv2
              have HB2 := Lib.hid (HBW.out.trans (hc2.below HBW.out.size (fun y hy => blkV_ge HD.out HVV.out y hy)))
              have HWS2 := Lib.hid (HWS.out.chg hc2 hgr2)
              have HMS2 := Lib.hid (HMS.out.chg hc2 hgr2)
              have HTS2 := Lib.hid (HTS.out.chg hc2 hgr2)
              have HUS2 := Lib.hid (HUS.out.chg hc2 hgr2)
              clear hv2 hd2 hc2 hgr2 HAPP HDW HD HVV HWS HMS HTS HUS
              go_upto_region 21 with (first
                | (at_builtin; refine wpList_app3 rfl (.tmp 67) (.tmp 68) rfl EDR rfl rfl (own_nil x2.heap.size _ _) (m := RW.length) (news := rc RowS.cells RW) (by rw [rc_length RowS.len, Nat.mul_one]) HWS2.out.1.sl (rc_one (fun r u hu => by simp only [RowS.cells, List.mem_cons, List.not_mem_nil, or_false] at hu; subst hu; rfl) _) (by have := HLN.out; unfold maxLen; omega) (by have := HLN.out; omega) (Nat.le_refl _) ?_; intro A5 c5 w5 own5 hg5 hv5 hb5)
                | fail)
              simp only [Nat.zero_add, List.nil_append] at own5 ⊢
              have HO5 := Lib.hid own5
              have HB5 := Lib.hid hb5
              clear own5 hg5 hv5 hb5
              go_upto_region 23 with (first
                | (at_builtin; refine wpList_app rfl (.tmp 70) (.tmp 72) rfl EDR rfl rfl (HO5.out.alloc _) (m := 1) (news := [.slice BA m bc]) rfl (Sl.new_ _ _ _) (fun u hu => by simp only [List.mem_cons, List.not_mem_nil, or_false] at hu; subst hu; rfl) (by have := HLN.out; unfold maxLen; omega) (by have := HLN.out; omega) (by simp only [World.size_alloc]; have := HB5.out.size; omega) ?_; intro A6 c6 w6 own6 hg6 hb6)
                | fail)
              have hB6 : Below x2.heap.size x2 w6 := (HB5.out.alloc HB5.out.size _).trans hb6
              have HB7 := Lib.hid (HB2.out.trans (hB6.mono HB2.out.size))
              have hcells : rc RowS.cells (RW ++ [(⟨BA, bc, BL⟩ : RowS Nat)]) = rc RowS.cells RW ++ [.slice BA m bc] := by
                rw [rc_append]
                show rc RowS.cells RW ++ [.slice BA BL.length bc] = _
                rw [HBM.out]
              have hlen6 : (RW ++ [(⟨BA, bc, BL⟩ : RowS Nat)]).length = RW.length + 1 := by rw [List.length_append]; rfl
              have hrb : SlX (blkV b g h s2 (x'.sc.row A2 c2)) x2 BA (by8 BL) := SlX.old (HBS.out _ HB2.out) HBLT.out HB2.out.size (fun y hy => blkV_ge HD2.out HV2.out y hy)
              have hMN : RowsX (blkV b g h s2 (x'.sc.row A2 c2)) w6 A6 (RW ++ [(⟨BA, bc, BL⟩ : RowS Nat)]) := RowsX.snoc (c := c6) (B := x2.heap.size) HWS2.out hrb hB6 (by rw [hcells, hlen6]; exact own6) (blkV_lt HD2.out HV2.out)
              have HMN := Lib.hid hMN
              have HLEN6 := Lib.hid hlen6
              have HD6 := Lib.hid (HD2.out.below hB6)
              have HV6 := Lib.hid (HV2.out.below hB6)
              have HW6 := Lib.hid (HWS2.out.below hB6)
              have HM6 := Lib.hid (HMS2.out.below hB6)
              have HT6 := Lib.hid (HTS2.out.below hB6)
              have HU6 := Lib.hid (HUS2.out.below hB6)
              have HLR : Hid (∀ r ∈ RW ++ [(⟨BA, bc, BL⟩ : RowS Nat)], r.l.length ≤ 250) := Lib.hid (fun r hr => by
                rcases List.mem_append.1 hr with h1 | h1
                · exact HLN.out.2.2.2.1 r h1
                · rw [List.mem_singleton] at h1; subst h1; exact HB250.out)
              clear hB6 hcells hlen6 hrb hMN own6 hg6 hb6 HO5 HB5
              go_wp2_with fail
              go_roundw
              case rel => exact ⟨k + 1, D, x', v, h, s2, A2, c2, R2, SA2, k2, TA, tc, st, TA, tc, st, WA, wc, RW, A6, c6, RW ++ [(⟨BA, bc, BL⟩ : RowS Nat)], by omega, by omega, rfl, rfl, rfl, rfl, by rw [HLEN6.out], by go_num, ⟨_, _, HD6.out⟩, HV6, HKN, HUN, HT6, HT6, HW6, HMN, Lib.hid (by have := HLN.out; rw [HLEN6.out, HXL.out, List.length_map]; exact ⟨by omega, by omega, by omega, this.2.2.2.1, HLR.out, this.2.2.2.2.2.1, this.2.2.2.2.2.1⟩), HB7.out⟩
              case measure => simp [intOf]; omega
            · have HKN : Hid (K10 D x' ((k + 1 + 1 : Nat) : Int) st ((RW ++ [(⟨BA, bc, BL⟩ : RowS Nat)]).map RowS.l) st ((RW ++ [(⟨BA, bc, BL⟩ : RowS Nat)]).map RowS.l)) := Lib.hid (by rw [List.map_append]; exact hkn)
              have HXL := Lib.hid (show x'.sc.L = (RW ++ [(⟨BA, bc, BL⟩ : RowS Nat)]).map RowS.l by rw [List.map_append]; exact hxl)
              have HUN : Hid (U10 D x' ((k + 1 + 1 : Nat) : Int)) := Lib.hid (HU.out.app (by omega) happ)
              clear hon hkn hxl
              have hA := vapp_any BA bc BL wr HVV.out HD.out HBW.out.size HBF.out.1 HBF.out.2.1 HBF.out.2.2.1 (SlF.of_old (HBS.out _ HBW.out) HBLT.out HGE.out.1 HGE.out.2) HBF.out.2.2.2 (by rw [HU.out.len]; exact HU.out.t) (by have := HLN.out; omega)
              rw [happ] at hA
              simp only at hA
              rw [HBM.out] at hA
              have HAPP := Lib.hid hA
              clear hA happ
              go_wp2_with fail
              refine HAPP.out.mono ?_
              rintro e x2 ⟨rfl, s2, A2, c2, R2, SA2, k2, hv2, hd2, hc2, hgr2⟩
              have HD2 := Lib.hid hd2
              have HV2 := Lib.hid hv2
              have HB2 := Lib.hid (HBW.out.trans (hc2.below HBW.out.size (fun y hy => blkV_ge HD.out HVV.out y hy)))
              have HWS2 := Lib.hid (HWS.out.chg hc2 hgr2)
              have HMS2 := Lib.hid (HMS.out.chg hc2 hgr2)
              have HTS2 := Lib.hid (HTS.out.chg hc2 hgr2)
              have HUS2 := Lib.hid (HUS.out.chg hc2 hgr2)
              clear hv2 hd2 hc2 hgr2 HAPP HDW HD HVV HWS HMS HTS HUS
              go_upto_region 21 with (first
                | (at_builtin; refine wpList_app3 rfl (.tmp 67) (.tmp 68) rfl EDR rfl rfl (own_nil x2.heap.size _ _) (m := RW.length) (news := rc RowS.cells RW) (by rw [rc_length RowS.len, Nat.mul_one]) HWS2.out.1.sl (rc_one (fun r u hu => by simp only [RowS.cells, List.mem_cons, List.not_mem_nil, or_false] at hu; subst hu; rfl) _) (by have := HLN.out; unfold maxLen; omega) (by have := HLN.out; omega) (Nat.le_refl _) ?_; intro A5 c5 w5 own5 hg5 hv5 hb5)
                | fail)
              simp only [Nat.zero_add, List.nil_append] at own5 ⊢
              have HO5 := Lib.hid own5
              have HB5 := Lib.hid hb5
              clear own5 hg5 hv5 hb5
              go_upto_region 23 with (first
                | (at_builtin; refine wpList_app rfl (.tmp 70) (.tmp 72) rfl EDR rfl rfl (HO5.out.alloc _) (m := 1) (news := [.slice BA m bc]) rfl (Sl.new_ _ _ _) (fun u hu => by simp only [List.mem_cons, List.not_mem_nil, or_false] at hu; subst hu; rfl) (by have := HLN.out; unfold maxLen; omega) (by have := HLN.out; omega) (by simp only [World.size_alloc]; have := HB5.out.size; omega) ?_; intro A6 c6 w6 own6 hg6 hb6)
                | fail)
              have hB6 : Below x2.heap.size x2 w6 := (HB5.out.alloc HB5.out.size _).trans hb6
              have HB7 := Lib.hid (HB2.out.trans (hB6.mono HB2.out.size))
              have hcells : rc RowS.cells (RW ++ [(⟨BA, bc, BL⟩ : RowS Nat)]) = rc RowS.cells RW ++ [.slice BA m bc] := by
                rw [rc_append]
                show rc RowS.cells RW ++ [.slice BA BL.length bc] = _
                rw [HBM.out]
              have hlen6 : (RW ++ [(⟨BA, bc, BL⟩ : RowS Nat)]).length = RW.length + 1 := by rw [List.length_append]; rfl
              have hrb : SlX (blkV b g h s2 (x'.sc.row A2 c2)) x2 BA (by8 BL) := SlX.old (HBS.out _ HB2.out) HBLT.out HB2.out.size (fun y hy => blkV_ge HD2.out HV2.out y hy)
              have hMN : RowsX (blkV b g h s2 (x'.sc.row A2 c2)) w6 A6 (RW ++ [(⟨BA, bc, BL⟩ : RowS Nat)]) := RowsX.snoc (c := c6) (B := x2.heap.size) HWS2.out hrb hB6 (by rw [hcells, hlen6]; exact own6) (blkV_lt HD2.out HV2.out)
              have HMN := Lib.hid hMN
              have HLEN6 := Lib.hid hlen6
              have HD6 := Lib.hid (HD2.out.below hB6)
              have HV6 := Lib.hid (HV2.out.below hB6)
              have HW6 := Lib.hid (HWS2.out.below hB6)
              have HM6 := Lib.hid (HMS2.out.below hB6)
              have HT6 := Lib.hid (HTS2.out.below hB6)
              have HU6 := Lib.hid (HUS2.out.below hB6)
              have HLR : Hid (∀ r ∈ RW ++ [(⟨BA, bc, BL⟩ : RowS Nat)], r.l.length ≤ 250) := Lib.hid (fun r hr => by
                rcases List.mem_append.1 hr with h1 | h1
                · exact HLN.out.2.2.2.1 r h1
                · rw [List.mem_singleton] at h1; subst h1; exact HB250.out)
              clear hB6 hcells hlen6 hrb hMN own6 hg6 hb6 HO5 HB5
              go_wp2_with fail
              go_roundw
              case rel => exact ⟨k + 1, D, x', v, h, s2, A2, c2, R2, SA2, k2, TA, tc, st, TA, tc, st, A6, c6, RW ++ [(⟨BA, bc, BL⟩ : RowS Nat)], A6, c6, RW ++ [(⟨BA, bc, BL⟩ : RowS Nat)], by omega, by omega, rfl, rfl, rfl, by rw [HLEN6.out], by rw [HLEN6.out], by go_num, ⟨_, _, HD6.out⟩, HV6, HKN, HUN, HT6, HT6, HMN, HMN, Lib.hid (by have := HLN.out; rw [HLEN6.out, HXL.out, List.length_map, HLEN6.out]; exact ⟨by omega, by omega, by omega, HLR.out, HLR.out, this.2.2.2.2.2.1, this.2.2.2.2.2.1⟩), HB7.out⟩
              case measure => simp [intOf]; omega
        · by_cases hkind1 : kind = 1
          · have hk0 : (kind == 0) = false := by simpa using hkind
            have hk1 : (kind == 1) = true := by simpa using hkind1
            clear hkind hkind1
            cases hon : d.on with
            | false =>
              have happ : x.compact d BL = ((x, d), 9) := compact_off hon
              have hnw := @save_off d 0 x.each x.life (x.era + 1) BL hon
              have HON := Lib.hid hon
              clear hon
              have hA := vcompact_any BA bc BL wr HVV.out HD.out HBW.out.size HBF.out.1 HBF.out.2.1 HBF.out.2.2.1 (SlF.of_old (HBS.out _ HBW.out) HBLT.out HGE.out.1 HGE.out.2) HBF.out.2.2.2 (by rw [HU.out.each]; decide) (by rw [HU.out.each, HU.out.len]; decide) (by have := HU.out.er; omega) (fun h0 => absurd h0 hnw)
              rw [happ] at hA
              simp only at hA
              rw [HBM.out] at hA
              have HAPP := Lib.hid hA
              clear hA happ hnw
              go_wp2_with fail
              refine HAPP.out.mono ?_
              rintro e x2 ⟨rfl, s2, A2, c2, R2, SA2, k2, hv2, hd2, hc2, hgr2⟩
              have HD2 := Lib.hid hd2
              have HV2 := Lib.hid hv2
              have HB2 := Lib.hid (HBW.out.trans (hc2.below HBW.out.size (fun y hy => blkV_ge HD.out HVV.out y hy)))
              have HWS2 := Lib.hid (HWS.out.chg hc2 hgr2)
              have HMS2 := Lib.hid (HMS.out.chg hc2 hgr2)
              have HTS2 := Lib.hid (HTS.out.chg hc2 hgr2)
              have HUS2 := Lib.hid (HUS.out.chg hc2 hgr2)
              clear hv2 hd2 hc2 hgr2 HAPP HDW HD HVV HWS HMS HTS HUS
              have HSB : Hid (SlX (blkV b g h s2 (x.sc.row A2 c2)) x2 BA (by8 BL)) := Lib.hid (SlX.old (HBS.out _ HB2.out) HBLT.out HB2.out.size (fun y hy => blkV_ge HD2.out HV2.out y hy))
              go_wp2_with fail
              go_roundw
              case rel => exact ⟨k + 1, d, x, v, h, s2, A2, c2, R2, SA2, k2, TA, tc, st, UA, uc, su, WA, wc, RW, MA, mc, RM, by omega, by omega, rfl, rfl, rfl, rfl, rfl, by go_num, ⟨_, _, HD2.out⟩, HV2, Lib.hid (HK.out.up (by omega)), Lib.hid (by have := HU.out; exact ⟨this.len, this.t, this.each, this.er.1, by have := this.er.2; omega⟩), HTS2, HUS2, HWS2, HMS2, Lib.hid (by have := HLN.out; exact ⟨by omega, by omega, by omega, this.2.2.2⟩), HB2.out⟩
              case measure => simp [intOf]; omega
            | true =>
              have HON := Lib.hid hon
              obtain ⟨hnw, hways⟩ := HK.out.compact (M2 := ((k + 1 + 1 : Nat) : Int)) (by omega) (by omega) hon HB250.out
              rcases hways with ⟨x', D, happ, hxl, hkn⟩ | ⟨x', D, happ, hxl, hkn⟩
              · have HKN : Hid (K10 D x' ((k + 1 + 1 : Nat) : Int) st (RW.map RowS.l) BL (([] : List (RowS Nat)).map RowS.l)) := Lib.hid hkn
                have HXL := Lib.hid (show x'.sc.L = RW.map RowS.l from hxl)
                have HUN : Hid (U10 D x' ((k + 1 + 1 : Nat) : Int)) := Lib.hid (HU.out.compact (by omega) happ)
                clear hon hkn hxl
                have hA := vcompact_any BA bc BL wr HVV.out HD.out HBW.out.size HBF.out.1 HBF.out.2.1 HBF.out.2.2.1 (SlF.of_old (HBS.out _ HBW.out) HBLT.out HGE.out.1 HGE.out.2) HBF.out.2.2.2 (by rw [HU.out.each]; decide) (by rw [HU.out.each, HU.out.len]; decide) (by have := HU.out.er; omega) hnw
                rw [happ] at hA
                simp only at hA
                rw [HBM.out] at hA
                have HAPP := Lib.hid hA
                clear hA happ hnw
                go_wp2_with fail
                refine HAPP.out.mono ?_
                rintro e x2 ⟨rfl, s2, A2, c2, R2, SA2, k2, hv2, hd2, hc2, hgr2⟩
                have HD2 := Lib.hid hd2
                have HV2 := Lib.hid hv2
                have HB2 := Lib.hid (HBW.out.trans (hc2.below HBW.out.size (fun y hy => blkV_ge HD.out HVV.out y hy)))
                have HWS2 := Lib.hid (HWS.out.chg hc2 hgr2)
                have HMS2 := Lib.hid (HMS.out.chg hc2 hgr2)
                have HTS2 := Lib.hid (HTS.out.chg hc2 hgr2)
                have HUS2 := Lib.hid (HUS.out.chg hc2 hgr2)
                clear hv2 hd2 hc2 hgr2 HAPP HDW HD HVV HWS HMS HTS HUS
                have HSB : Hid (SlX (blkV b g h s2 (x'.sc.row A2 c2)) x2 BA (by8 BL)) := Lib.hid (SlX.old (HBS.out _ HB2.out) HBLT.out HB2.out.size (fun y hy => blkV_ge HD2.out HV2.out y hy))
                go_wp2_with fail
                go_roundw
                case rel => exact ⟨k + 1, D, x', v, h, s2, A2, c2, R2, SA2, k2, TA, tc, st, BA, bc, BL, WA, wc, RW, none, 0, [], by omega, by omega, rfl, rfl, by rw [HBM.out], rfl, rfl, by go_num, ⟨_, _, HD2.out⟩, HV2, HKN, HUN, HTS2, HSB, HWS2, RowsX.nil, Lib.hid (by have := HLN.out; rw [HXL.out, List.length_map]; exact ⟨by omega, Nat.zero_le _, by omega, this.2.2.2.1, (fun r hr => by cases hr), this.2.2.2.2.2.1, HB250.out⟩), HB2.out⟩
                case measure => simp [intOf]; omega
              · have HKN : Hid (K10 D x' ((k + 1 + 1 : Nat) : Int) BL (([] : List (RowS Nat)).map RowS.l) BL (([] : List (RowS Nat)).map RowS.l)) := Lib.hid hkn
                have HXL := Lib.hid (show x'.sc.L = [] from hxl)
                have HUN : Hid (U10 D x' ((k + 1 + 1 : Nat) : Int)) := Lib.hid (HU.out.compact (by omega) happ)
                clear hon hkn hxl
                have hA := vcompact_any BA bc BL wr HVV.out HD.out HBW.out.size HBF.out.1 HBF.out.2.1 HBF.out.2.2.1 (SlF.of_old (HBS.out _ HBW.out) HBLT.out HGE.out.1 HGE.out.2) HBF.out.2.2.2 (by rw [HU.out.each]; decide) (by rw [HU.out.each, HU.out.len]; decide) (by have := HU.out.er; omega) hnw
                rw [happ] at hA
                simp only at hA
                rw [HBM.out] at hA
                have HAPP := Lib.hid hA
                clear hA happ hnw
                go_wp2_with fail
                refine HAPP.out.mono ?_
                rintro e x2 ⟨rfl, s2, A2, c2, R2, SA2, k2, hv2, hd2, hc2, hgr2⟩
                have HD2 := Lib.hid hd2
                have HV2 := Lib.hid hv2
                have HB2 := Lib.hid (HBW.out.trans (hc2.below HBW.out.size (fun y hy => blkV_ge HD.out HVV.out y hy)))
                have HWS2 := Lib.hid (HWS.out.chg hc2 hgr2)
                have HMS2 := Lib.hid (HMS.out.chg hc2 hgr2)
                have HTS2 := Lib.hid (HTS.out.chg hc2 hgr2)
                have HUS2 := Lib.hid (HUS.out.chg hc2 hgr2)
                clear hv2 hd2 hc2 hgr2 HAPP HDW HD HVV HWS HMS HTS HUS
                have HSB : Hid (SlX (blkV b g h s2 (x'.sc.row A2 c2)) x2 BA (by8 BL)) := Lib.hid (SlX.old (HBS.out _ HB2.out) HBLT.out HB2.out.size (fun y hy => blkV_ge HD2.out HV2.out y hy))
                go_wp2_with fail
                go_roundw
                case rel => exact ⟨k + 1, D, x', v, h, s2, A2, c2, R2, SA2, k2, BA, bc, BL, BA, bc, BL, none, 0, [], none, 0, [], by omega, by omega, rfl, by rw [HBM.out], by rw [HBM.out], rfl, rfl, by go_num, ⟨_, _, HD2.out⟩, HV2, HKN, HUN, HSB, HSB, RowsX.nil, RowsX.nil, Lib.hid (by rw [HXL.out]; exact ⟨Nat.zero_le _, Nat.zero_le _, Nat.zero_le _, (fun r hr => by cases hr), (fun r hr => by cases hr), HB250.out, HB250.out⟩), HB2.out⟩
                case measure => simp [intOf]; omega
          · by_cases hkind2 : kind = 2
            · have hk0 : (kind == 0) = false := by simpa using hkind
              have hk1 : (kind == 1) = false := by simpa using hkind1
              have hk2 : (kind == 2) = true := by simpa using hkind2
              clear hkind hkind1 hkind2
              go_wp2_with fail
              have hq1 : wr.drew.cell? ⟨bb, oo + k * 4 + 1, none⟩ = some (.int .i64 n) := (HBW.out.cell (p := ⟨bb, oo + k * 4 + 1, none⟩) HBW2.out).trans HG.out.2.1
              have hq3 : wr.drew.cell? ⟨bb, oo + k * 4 + 3, none⟩ = some (.slice KA KK.length kkc) := (HBW.out.cell (p := ⟨bb, oo + k * 4 + 3, none⟩) HBW2.out).trans HG.out.2.2.2
              have hqs : bb < wr.drew.heap.size := Nat.lt_of_lt_of_le HBW2.out HBW.out.size
              refine wp_region_held_drew (S := (fun V => V.cell? ⟨bb, oo + k * 4 + 1, none⟩ = some (.int .i64 n) ∧ V.cell? ⟨bb, oo + k * 4 + 3, none⟩ = some (.slice KA KK.length kkc) ∧ bb < V.heap.size)) (by kernel_rfl) (by exact ⟨hq1, hq3, hqs⟩) (fun hHeld => ?_)
              refine wpAnyH_take (i := 0) (oi := { dst := some 95, op := _, type := _, pos := _, after := _, guard := _ }) (v := ?_) rfl (by kernel_rfl) (by kernel_rfl) (by kernel_rfl) (fun _ _ _ h => h) (Or.inl ⟨by rfl, ?_⟩) hHeld ?_
              rotate_left
              · (intro w hSw; clear hSw; go_simp <;> with_reducible rfl)
              try simp only [Act.put, List.setIfInBounds_toArray, List.set_cons_zero, List.set_cons_succ]
              refine wpAnyH_take (i := 1) (oi := { dst := some 96, op := _, type := _, pos := _, after := _, guard := _ }) (v := ?_) rfl (by kernel_rfl) (by kernel_rfl) (by kernel_rfl) (fun _ _ _ h => h) (Or.inl ⟨by rfl, ?_⟩) hHeld ?_
              rotate_left
              · (intro w hSw; clear hSw; go_simp <;> with_reducible rfl)
              try simp only [Act.put, List.setIfInBounds_toArray, List.set_cons_zero, List.set_cons_succ]
              refine wpAnyH_take (i := 2) (oi := { dst := some 97, op := _, type := _, pos := _, after := _, guard := _ }) (v := ?_) rfl (by kernel_rfl) (by kernel_rfl) (by kernel_rfl) (fun _ _ _ h => h) (Or.inl ⟨by rfl, ?_⟩) hHeld ?_
              rotate_left
              · (intro w hSw; clear hSw; go_simp <;> with_reducible rfl)
              try simp only [Act.put, List.setIfInBounds_toArray, List.set_cons_zero, List.set_cons_succ]
              refine wpAnyH_take (i := 3) (oi := { dst := some 98, op := _, type := _, pos := _, after := _, guard := _ }) (v := ?_) rfl (by kernel_rfl) (by kernel_rfl) (by kernel_rfl) (fun _ _ _ h => h) (Or.inl ⟨by rfl, ?_⟩) hHeld ?_
              rotate_left
              · (intro w hSw; clear hSw; go_simp <;> with_reducible rfl)
              try simp only [Act.put, List.setIfInBounds_toArray, List.set_cons_zero, List.set_cons_succ]
              refine wpAnyH_take (i := 4) (oi := { dst := some 99, op := _, type := _, pos := _, after := _, guard := _ }) (v := ?_) rfl (by kernel_rfl) (by kernel_rfl) (by kernel_rfl) (fun _ _ _ h => h) (Or.inl ⟨by rfl, ?_⟩) hHeld ?_
              rotate_left
              · (intro w hSw; clear hSw; go_simp <;> with_reducible rfl)
              try simp only [Act.put, List.setIfInBounds_toArray, List.set_cons_zero, List.set_cons_succ]
              refine wpAnyH_take (i := 5) (oi := { dst := some 100, op := _, type := _, pos := _, after := _, guard := _ }) (v := ?_) rfl (by kernel_rfl) (by kernel_rfl) (by kernel_rfl) (fun _ _ _ h => h) (Or.inl ⟨by rfl, ?_⟩) hHeld ?_
              rotate_left
              · (intro w hSw; obtain ⟨q1, q3, qs⟩ := (hSw); go_simp <;> with_reducible rfl)
              try simp only [Act.put, List.setIfInBounds_toArray, List.set_cons_zero, List.set_cons_succ]
              refine wpAnyH_take (i := 6) (oi := { dst := some 101, op := _, type := _, pos := _, after := _, guard := _ }) (v := ?_) rfl (by kernel_rfl) (by kernel_rfl) (by kernel_rfl) (fun _ _ _ h => h) (Or.inl ⟨by rfl, ?_⟩) hHeld ?_
              rotate_left
              · (intro w hSw; clear hSw; go_simp <;> with_reducible rfl)
              try simp only [Act.put, List.setIfInBounds_toArray, List.set_cons_zero, List.set_cons_succ]
              refine wpAnyH_take (i := 7) (oi := { dst := some 102, op := _, type := _, pos := _, after := _, guard := _ }) (v := ?_) rfl (by kernel_rfl) (by kernel_rfl) (by kernel_rfl) (fun _ _ _ h => h) (Or.inl ⟨by rfl, ?_⟩) hHeld ?_
              rotate_left
              · (intro w hSw; clear hSw; go_simp <;> with_reducible rfl)
              try simp only [Act.put, List.setIfInBounds_toArray, List.set_cons_zero, List.set_cons_succ]
              refine wpAnyH_take (i := 8) (oi := { dst := some 103, op := _, type := _, pos := _, after := _, guard := _ }) (v := ?_) rfl (by kernel_rfl) (by kernel_rfl) (by kernel_rfl) (fun _ _ _ h => h) (Or.inl ⟨by rfl, ?_⟩) hHeld ?_
              rotate_left
              · (intro w hSw; clear hSw; go_simp <;> with_reducible rfl)
              try simp only [Act.put, List.setIfInBounds_toArray, List.set_cons_zero, List.set_cons_succ]
              refine wpAnyH_take (i := 9) (oi := { dst := some 104, op := _, type := _, pos := _, after := _, guard := _ }) (v := ?_) rfl (by kernel_rfl) (by kernel_rfl) (by kernel_rfl) (fun _ _ _ h => h) (Or.inl ⟨by rfl, ?_⟩) hHeld ?_
              rotate_left
              · (intro w hSw; clear hSw; go_simp <;> with_reducible rfl)
              try simp only [Act.put, List.setIfInBounds_toArray, List.set_cons_zero, List.set_cons_succ]
              refine wpAnyH_take (i := 10) (oi := { dst := some 105, op := _, type := _, pos := _, after := _, guard := _ }) (v := ?_) rfl (by kernel_rfl) (by kernel_rfl) (by kernel_rfl) (fun _ _ _ h => h) (Or.inl ⟨by rfl, ?_⟩) hHeld ?_
              rotate_left
              · (intro w hSw; obtain ⟨q1, q3, qs⟩ := (hSw); go_simp <;> with_reducible rfl)
              try simp only [Act.put, List.setIfInBounds_toArray, List.set_cons_zero, List.set_cons_succ]
              refine wpAnyH_ready (rs := [11]) (by kernel_rfl) (by simp) ?_
              refine AllReadyH.cons (o := { dst := some 106, op := _, type := _, pos := _, after := _, guard := _ }) rfl (fun K hK => ?_) AllReadyH.nil
              go_simp
              refine (HFEW.out _).mono ?_
              rintro e x3 ⟨rfl, hb3⟩
              have hb30 : Below wr.heap.size wr x3 := since_step (Below.refl _ _).drew hb3
              have HB3 := Lib.hid (since_step HBW.out hb30)
              have HD3 := Lib.hid (HD.out.below hb30)
              have hKeep : (fun V => V.cell? ⟨bb, oo + k * 4 + 1, none⟩ = some (.int .i64 n) ∧ V.cell? ⟨bb, oo + k * 4 + 3, none⟩ = some (.slice KA KK.length kkc) ∧ bb < V.heap.size) x3 := ⟨(HB3.out.cell (p := ⟨bb, oo + k * 4 + 1, none⟩) HBW2.out).trans HG.out.2.1, (HB3.out.cell (p := ⟨bb, oo + k * 4 + 3, none⟩) HBW2.out).trans HG.out.2.2.2, Nat.lt_of_lt_of_le HBW2.out HB3.out.size⟩
              have HB30 := Lib.hid hb30
              have hF := dfuse_any n KA kkc KL x3 HD3.out HB3.out.size HKL.out HNB.out.2 (SlF.of_old (HKS.out _ HB3.out) HKA.out HGE.out.1 HGE.out.2)
              have HF := Lib.hid hF
              clear hb3 hb30 hF
              go_wp2_with fail
              refine hK.out _ _ (by (try dsimp only); exact hKeep) (fun hHeld => ?_)
              clear hK K hKeep
              try simp only [Act.put, List.setIfInBounds_toArray, List.set_cons_zero, List.set_cons_succ]
              refine wpAnyH_ready (rs := [12]) (by kernel_rfl) (by simp) ?_
              refine AllReadyH.cons (o := { dst := some 107, op := _, type := _, pos := _, after := _, guard := _ }) rfl (fun K hK => ?_) AllReadyH.nil
              go_simp
              refine HF.out.mono ?_
              rintro e x4 ⟨rfl, hc4, hd4⟩
              have HB4 := Lib.hid (HB3.out.trans (hc4.below HB3.out.size HGE.out.1 HGE.out.2))
              have hKeep : (fun V => V.cell? ⟨bb, oo + k * 4 + 1, none⟩ = some (.int .i64 n) ∧ V.cell? ⟨bb, oo + k * 4 + 3, none⟩ = some (.slice KA KK.length kkc) ∧ bb < V.heap.size) x4 := ⟨(HB4.out.cell (p := ⟨bb, oo + k * 4 + 1, none⟩) HBW2.out).trans HG.out.2.1, (HB4.out.cell (p := ⟨bb, oo + k * 4 + 3, none⟩) HBW2.out).trans HG.out.2.2.2, Nat.lt_of_lt_of_le HBW2.out HB4.out.size⟩
              have HV4 := Lib.hid (VaA.chg2 HD3.out (HVV.out.below HB30.out) hc4)
              have HW4 := Lib.hid ((HWS.out.below HB30.out).chg (chg2_blkV (h := h) (v := x.sc.row A c) (s := s) hc4) (fun y hy => .inl hy))
              have HM4 := Lib.hid ((HMS.out.below HB30.out).chg (chg2_blkV (h := h) (v := x.sc.row A c) (s := s) hc4) (fun y hy => .inl hy))
              have HT4 := Lib.hid ((HTS.out.below HB30.out).chg (chg2_blkV (h := h) (v := x.sc.row A c) (s := s) hc4) (fun y hy => .inl hy))
              have HU4 := Lib.hid ((HUS.out.below HB30.out).chg (chg2_blkV (h := h) (v := x.sc.row A c) (s := s) hc4) (fun y hy => .inl hy))
              have HD4 := Lib.hid hd4
              clear hc4 hd4 HF
              go_wp2_with fail
              refine hK.out _ _ (by (try dsimp only); exact hKeep) (fun hHeld => ?_)
              clear hK K hKeep
              try simp only [Act.put, List.setIfInBounds_toArray, List.set_cons_zero, List.set_cons_succ]
              refine wpAnyH_done (by kernel_rfl) ?_ _
              go_wp2_with fail
              go_roundw
              case rel => exact ⟨k + 1, (d.fuse n KL).1, x, v, h, s, A, c, R, SA, sk, TA, tc, st, UA, uc, su, WA, wc, RW, MA, mc, RM, by omega, by omega, rfl, rfl, rfl, rfl, rfl, by go_num, HD4, HV4, Lib.hid (HK.out.fuse (by omega) n KL), Lib.hid (by have := HU.out; exact ⟨by rw [fuse_S.1]; exact this.len, this.t, this.each, this.er.1, by have := this.er.2; omega⟩), HT4, HU4, HW4, HM4, Lib.hid (by have := HLN.out; exact ⟨by omega, by omega, by omega, this.2.2.2⟩), HB4.out⟩
              case measure => simp [intOf]; omega
            · by_cases hkind3 : kind = 3
              · have hk0 : (kind == 0) = false := by simpa using hkind
                have hk1 : (kind == 1) = false := by simpa using hkind1
                have hk2 : (kind == 2) = false := by simpa using hkind2
                have hk3 : (kind == 3) = true := by simpa using hkind3
                clear hkind hkind1 hkind2 hkind3
                obtain ⟨era, SX, X, herM, hdur, hmatch⟩ := HK.out.dur
                obtain ⟨hA10, hlf1, hlf2⟩ := hdur.open
                have HST := Lib.hid (dstart_any wr HD.out)
                have HA10 : Hid (A10 d.fresh (openV d.S 5) SX X era) := Lib.hid ⟨hA10.dur, hA10.each, hA10.er, hA10.state, hA10.dead, hA10.sc, hA10.slow⟩
                have HLIFE := Lib.hid (show 1 ≤ (openV d.S 5).life ∧ (openV d.S 5).life ≤ ((k + 1 + 1 : Nat) : Int) ∧ (era : Int) ≤ ((k + 1 : Nat) : Int) by have := HK.out.life; omega)
                have hXL : X.length ≤ k ∧ SX.length ≤ 250 ∧ ∀ y ∈ X, y.length ≤ 250 := by
                  have h := HLN.out
                  rcases hmatch with ⟨e1, e2⟩ | ⟨e1, e2⟩
                  · rw [e1, e2]; exact ⟨by rw [List.length_map]; omega, h.2.2.2.2.2.1, fun y hy => by obtain ⟨r, hr, rfl⟩ := List.mem_map.1 hy; exact h.2.2.2.1 r hr⟩
                  · rw [e1, e2]; exact ⟨by rw [List.length_map]; omega, h.2.2.2.2.2.2, fun y hy => by obtain ⟨r, hr, rfl⟩ := List.mem_map.1 hy; exact h.2.2.2.2.1 r hr⟩
                have HXL := Lib.hid hXL
                have HMAT := Lib.hid hmatch
                have hsx : (if (openV d.S 5).era = 0 then [] else (openV d.S 5).state) = SX := by
                  rw [hA10.er, hA10.state]
                  split
                  · rename_i h0
                    exact (hA10.dur.still.1 (by omega)).1.symm
                  · rfl
                have HSX := Lib.hid hsx
                have HVL : Hid ((openV d.S 5).sc.L = X) := Lib.hid (by obtain ⟨q, ml, hsc, _⟩ := hA10.sc; rw [hsc])
                have HOPN := Lib.hid (show d.fresh.S.length = 40 ∧ newestN d.S 0 d.fresh.S.length < 16777214 from ⟨HU.out.len, by rw [show d.fresh.S = d.S from rfl]; have h1 := HLIFE.out; have h2 : (openV d.S 5).life = newestN d.S 0 d.S.length + 1 := rfl; omega⟩)
                clear herM hdur hmatch hA10 hlf1 hlf2 hXL hsx
                go_wp2_with fail
                refine HST.out.mono ?_
                rintro e x1 ⟨rfl, hc1, K1, kc1, hd1⟩
                have HB1 := Lib.hid (HBW.out.trans (hc1.below HBW.out.size HGE.out.1 HGE.out.2))
                have HD1 := Lib.hid hd1
                have HV1 := Lib.hid (VaA.chg2 HD.out HVV.out hc1)
                have HW1 := Lib.hid (HWS.out.chg (chg2_blkV (h := h) (v := x.sc.row A c) (s := s) hc1) (fun y hy => .inl hy))
                have HM1 := Lib.hid (HMS.out.chg (chg2_blkV (h := h) (v := x.sc.row A c) (s := s) hc1) (fun y hy => .inl hy))
                have HT1 := Lib.hid (HTS.out.chg (chg2_blkV (h := h) (v := x.sc.row A c) (s := s) hc1) (fun y hy => .inl hy))
                have HU1 := Lib.hid (HUS.out.chg (chg2_blkV (h := h) (v := x.sc.row A c) (s := s) hc1) (fun y hy => .inl hy))
                clear hc1 hd1 HST HDW HD HVV HWS HMS HTS HUS HCUT HFEW HG HBS HBLT HKS HKA
                generalize wr = wq at *
                go_wp2_with fail
                go_loopw [5, 7, 8, 9, 10, 17] (fun vv tv uv wv mv jv wz => ∃ (j : Nat) (x : Vv) (v h s : Nat) (A : Option Addr) (c : Nat) (R : List (RowS Nat)) (SA : Option Addr) (sk : Nat) (TA : Option Addr) (tc : Nat) (st : List Nat) (UA : Option Addr) (uc : Nat) (su : List Nat) (WA : Option Addr) (wc : Nat) (RW : List (RowS Nat)) (MA : Option Addr) (mc : Nat) (RM : List (RowS Nat)), j ≤ 2 ∧ vv = .pointer (some ⟨v, 0, none⟩) ∧ tv = .slice TA st.length tc ∧ uv = .slice UA su.length uc ∧ wv = .slice WA RW.length wc ∧ mv = .slice MA RM.length mc ∧ jv = .int .i64 j ∧ Hid (DrA w.heap.size wz b g K1 kc1 d.fresh) ∧ Hid (VaA w.heap.size wz v h s b A c R SA sk x) ∧ Hid (0 < j → x = openV d.S 5 ∧ st = SX ∧ RW.map RowS.l = X ∧ su = SX ∧ RM.map RowS.l = X) ∧ Hid (SX = st ∧ X = RW.map RowS.l ∨ SX = su ∧ X = RM.map RowS.l) ∧ Hid (SlX (blkV b g h s (x.sc.row A c)) wz TA (by8 st)) ∧ Hid (SlX (blkV b g h s (x.sc.row A c)) wz UA (by8 su)) ∧ Hid (RowsX (blkV b g h s (x.sc.row A c)) wz WA RW) ∧ Hid (RowsX (blkV b g h s (x.sc.row A c)) wz MA RM) ∧ Hid (RW.length ≤ k ∧ RM.length ≤ k ∧ (∀ r ∈ RW, r.l.length ≤ 250) ∧ (∀ r ∈ RM, r.l.length ≤ 250) ∧ st.length ≤ 250 ∧ su.length ≤ 250) ∧ Below w.heap.size w wz) (fun _ _ _ _ _ jv _ => 2 - (intOf jv).toNat)
                case atStart => exact ⟨0, x, v, h, s, A, c, R, SA, sk, TA, tc, st, UA, uc, su, WA, wc, RW, MA, mc, RM, Nat.zero_le _, rfl, rfl, rfl, rfl, rfl, rfl, HD1, HV1, Lib.hid (fun h0 => absurd h0 (by decide)), HMAT, HT1, HU1, HW1, HM1, Lib.hid (by have := HLN.out; exact ⟨by omega, by omega, this.2.2.2⟩), HB1.out⟩
                case round =>
                  clear HD1 HV1 HT1 HU1 HW1 HM1 HB1 HMAT HBW HLN HK
                  obtain ⟨j, x, v, h, s, A, c, R, SA, sk, TA, tc, st, UA, uc, su, WA, wc, RW, MA, mc, RM, hj, rfl, rfl, rfl, rfl, rfl, rfl, HD1, HV1, HJ, HMAT, HT1, HU1, HW1, HM1, HLN, hB1⟩ := hrel
                  by_cases hj2 : j < 2
                  · have hjl : (j : Int) < 2 := by omega
                    have HB1 := Lib.hid hB1
                    have HO := Lib.hid (vopen_ok 5 wr HD1.out HB1.out.size (by decide) (by rw [HOPN.out.1]; decide) HOPN.out.2)
                    have HJ2 := Lib.hid hj2
                    clear hB1 HJ hj2
                    go_wp2_with fail
                    refine HO.out.mono ?_
                    rintro e y2 ⟨v2, h2, s2, A2, c2, R2, SA2, k2, rfl, hv2, hb2, hz1, hz2, hz3, hz4⟩
                    have hgr := blkV_new (b := b) (g := g) (h := h) (s := s) (v := x.sc.row A c) hz2 hz3 hz4
                    have HB2 := Lib.hid (since_step HB1.out hb2)
                    have HD2 := Lib.hid (HD1.out.below hb2)
                    have HV2 : Hid (VaA w.heap.size y2 v2 h2 s2 b A2 c2 R2 SA2 k2 (openV d.S 5)) := Lib.hid hv2
                    have HW2 := Lib.hid (HW1.out.chg (ChgL.of_below hb2) hgr)
                    have HM2 := Lib.hid (HM1.out.chg (ChgL.of_below hb2) hgr)
                    have HT2 := Lib.hid (HT1.out.chg (ChgL.of_below hb2) hgr)
                    have HU2 := Lib.hid (HU1.out.chg (ChgL.of_below hb2) hgr)
                    have hst := vstate_any y2 HV2.out
                    rw [HSX.out] at hst
                    have HSS := Lib.hid hst
                    have HRL : Hid (∀ r ∈ R2, r.l.length ≤ 250) := Lib.hid (fun r hr => HXL.out.2.2 r.l (by have h : R2.map RowS.l = (openV d.S 5).sc.L := HV2.out.sc.map; rw [HVL.out] at h; rw [← h]; exact List.mem_map.2 ⟨r, hr, rfl⟩))
                    generalize (!decide ((openV d.S 5).era = 0)) = ok at *
                    clear hv2 hb2 hz1 hz2 hz3 hz4 hgr hst HO HW1 HM1 HT1 HU1 HD1 HV1
                    go_wp2_with fail
                    refine HSS.out.mono ?_
                    rintro e y3 ⟨⟨A3, c3, rfl, own3⟩, hb3⟩
                    have HT3n : Hid (SlX (blkV b g h2 s2 ((openV d.S 5).sc.row A2 c2)) y3 A3 (by8 SX)) := Lib.hid (SlX.own own3 (blkV_lt HD2.out HV2.out))
                    have HB3 := Lib.hid (since_step HB2.out hb3)
                    have HD3 := Lib.hid (HD2.out.below hb3)
                    have HV3 := Lib.hid (HV2.out.below hb3)
                    have HW3 := Lib.hid (HW2.out.below hb3)
                    have HM3 := Lib.hid (HM2.out.below hb3)
                    have HT3 := Lib.hid (HT2.out.below hb3)
                    have HU3 := Lib.hid (HU2.out.below hb3)
                    clear own3 hb3 HSS
                    by_cases hb1 : SX = st
                    · have Hhb1 := Lib.hid hb1
                      clear hb1
                      have hSM := same_n A3 TA c3 tc SX.length st.length SX st y3 rfl rfl (by have := HXL.out; unfold maxLen; omega) (by have := HLN.out; unfold maxLen; omega) HT3n.out.sl HT3.out.sl
                      rw [decide_eq_true Hhb1.out] at hSM
                      have HSM := Lib.hid hSM
                      clear hSM
                      go_wp2_with fail
                      refine HSM.out.mono ?_
                      rintro e y4 ⟨rfl, qq4, rfl⟩
                      have hb4 := below_dn y3 qq4
                      generalize y3.drewN qq4 = y4 at *
                      have HB4 := Lib.hid (since_step HB3.out hb4)
                      have HD4 := Lib.hid (HD3.out.below hb4)
                      have HV4 := Lib.hid (HV3.out.below hb4)
                      have HW4 := Lib.hid (HW3.out.below hb4)
                      have HM4 := Lib.hid (HM3.out.below hb4)
                      have HT4 := Lib.hid (HT3.out.below hb4)
                      have HU4 := Lib.hid (HU3.out.below hb4)
                      have HT4n := Lib.hid (HT3n.out.below hb4)
                      clear hb4 HSM
                      have HRC := Lib.hid (vrecords_any y4 HV4.out (fun r hr => by have := HRL.out r hr; omega))
                      go_wp2_with fail
                      refine HRC.out.mono ?_
                      rintro e y5 ⟨⟨A5, c5, S5, rfl, own5, map5, or5⟩, hb5⟩
                      rw [HVL.out] at map5
                      have HB5 := Lib.hid (since_step HB4.out hb5)
                      have HD5 := Lib.hid (HD4.out.below hb5)
                      have HV5 := Lib.hid (HV4.out.below hb5)
                      have HW5 := Lib.hid (HW4.out.below hb5)
                      have HM5 := Lib.hid (HM4.out.below hb5)
                      have HT5 := Lib.hid (HT4.out.below hb5)
                      have HU5 := Lib.hid (HU4.out.below hb5)
                      have HT5n := Lib.hid (HT4n.out.below hb5)
                      have HO5 := Lib.hid own5
                      have HMP5 := Lib.hid map5
                      have HOR5 := Lib.hid or5
                      have HSN5 : Hid (S5.length ≤ k ∧ ∀ r ∈ S5, r.l.length ≤ 250) := Lib.hid ⟨by rw [← List.length_map (f := RowS.l), HMP5.out]; exact HXL.out.1, fun r hr => HXL.out.2.2 r.l (by rw [← HMP5.out]; exact List.mem_map.2 ⟨r, hr, rfl⟩)⟩
                      clear own5 map5 or5 hb5 HRC
                      by_cases hb2 : X = RW.map RowS.l
                      · have Hhb2 := Lib.hid hb2
                        clear hb2
                        have hSM := rsame8_any A5 WA c5 wc S5 RW y5 (by have := HSN5.out; omega) (by have := HLN.out; omega) (Sl.of_own HO5.out) HW5.out.1.sl (fun r hr => ⟨Sl.of_own (HOR5.out r hr), by have := HSN5.out.2 r hr; omega⟩) (fun r hr => ⟨(HW5.out.2 r hr).sl, by have := HLN.out.2.2.1 r hr; omega⟩)
                        rw [HMP5.out, decide_eq_true Hhb2.out] at hSM
                        have HSM := Lib.hid hSM
                        clear hSM
                        go_wp2_with fail
                        refine HSM.out.mono ?_
                        rintro e y6 ⟨rfl, hb6⟩
                        have HB6 := Lib.hid (since_step HB5.out hb6)
                        have HD6 := Lib.hid (HD5.out.below hb6)
                        have HV6 := Lib.hid (HV5.out.below hb6)
                        have HW6 := Lib.hid (HW5.out.below hb6)
                        have HM6 := Lib.hid (HM5.out.below hb6)
                        have HT6 := Lib.hid (HT5.out.below hb6)
                        have HU6 := Lib.hid (HU5.out.below hb6)
                        have HT6n := Lib.hid (HT5n.out.below hb6)
                        clear hb6 HSM
                        have HRC := Lib.hid (vrecords_any y6 HV6.out (fun r hr => by have := HRL.out r hr; omega))
                        go_wp2_with fail
                        refine HRC.out.mono ?_
                        rintro e y7 ⟨⟨A7, c7, S7, rfl, own7, map7, or7⟩, hb7⟩
                        rw [HVL.out] at map7
                        have HB7 := Lib.hid (since_step HB6.out hb7)
                        have HD7 := Lib.hid (HD6.out.below hb7)
                        have HV7 := Lib.hid (HV6.out.below hb7)
                        have HW7 := Lib.hid (HW6.out.below hb7)
                        have HM7 := Lib.hid (HM6.out.below hb7)
                        have HT7 := Lib.hid (HT6.out.below hb7)
                        have HU7 := Lib.hid (HU6.out.below hb7)
                        have HT7n := Lib.hid (HT6n.out.below hb7)
                        have HO7 := Lib.hid own7
                        have HMP7 := Lib.hid map7
                        have HOR7 := Lib.hid or7
                        have HSN7 : Hid (S7.length ≤ k ∧ ∀ r ∈ S7, r.l.length ≤ 250) := Lib.hid ⟨by rw [← List.length_map (f := RowS.l), HMP7.out]; exact HXL.out.1, fun r hr => HXL.out.2.2 r.l (by rw [← HMP7.out]; exact List.mem_map.2 ⟨r, hr, rfl⟩)⟩
                        clear own7 map7 or7 hb7 HRC
                        have HRX : Hid (RowsX (blkV b g h2 s2 ((openV d.S 5).sc.row A2 c2)) y7 A7 S7) := Lib.hid (RowsX.own HO7.out HOR7.out (fun y hy => (fun h => ⟨h, h⟩) (blkV_lt HD6.out HV6.out y hy)))
                        go_wp2_with fail
                        go_roundw
                        case rel => exact ⟨j + 1, openV d.S 5, v2, h2, s2, A2, c2, R2, SA2, k2, A3, c3, SX, A3, c3, SX, A7, c7, S7, A7, c7, S7, by have := HJ2.out; omega, rfl, rfl, rfl, rfl, rfl, by go_num, HD7, HV7, Lib.hid (fun _ => ⟨rfl, rfl, HMP7.out, rfl, HMP7.out⟩), Lib.hid (.inl ⟨rfl, HMP7.out.symm⟩), HT7n, HT7n, HRX, HRX, Lib.hid ⟨HSN7.out.1, HSN7.out.1, HSN7.out.2, HSN7.out.2, HXL.out.2.1, HXL.out.2.1⟩, HB7.out⟩
                        case measure => simp [intOf]; have := HJ2.out; omega
                      · have Hhb2 := Lib.hid hb2
                        clear hb2
                        have hSM := rsame8_any A5 WA c5 wc S5 RW y5 (by have := HSN5.out; omega) (by have := HLN.out; omega) (Sl.of_own HO5.out) HW5.out.1.sl (fun r hr => ⟨Sl.of_own (HOR5.out r hr), by have := HSN5.out.2 r hr; omega⟩) (fun r hr => ⟨(HW5.out.2 r hr).sl, by have := HLN.out.2.2.1 r hr; omega⟩)
                        rw [HMP5.out, decide_eq_false Hhb2.out] at hSM
                        have HSM := Lib.hid hSM
                        clear hSM
                        go_wp2_with fail
                        refine HSM.out.mono ?_
                        rintro e y6 ⟨rfl, hb6⟩
                        have HB6 := Lib.hid (since_step HB5.out hb6)
                        have HD6 := Lib.hid (HD5.out.below hb6)
                        have HV6 := Lib.hid (HV5.out.below hb6)
                        have HW6 := Lib.hid (HW5.out.below hb6)
                        have HM6 := Lib.hid (HM5.out.below hb6)
                        have HT6 := Lib.hid (HT5.out.below hb6)
                        have HU6 := Lib.hid (HU5.out.below hb6)
                        have HT6n := Lib.hid (HT5n.out.below hb6)
                        clear hb6 HSM
                        have hno : ¬ (SX = st ∧ X = RW.map RowS.l) := fun h => Hhb2.out h.2
                        have Hhno := Lib.hid hno
                        clear hno
                        have hm2 : SX = su ∧ X = RM.map RowS.l := by
                          rcases HMAT.out with h1 | h1
                          · exact absurd h1 Hhno.out
                          · exact h1
                        have Hhm2 := Lib.hid hm2
                        clear hm2
                        have hSM := same_n A3 UA c3 uc SX.length su.length SX su y6 rfl rfl (by have := HXL.out; unfold maxLen; omega) (by have := HLN.out; unfold maxLen; omega) HT6n.out.sl HU6.out.sl
                        rw [decide_eq_true Hhm2.out.1] at hSM
                        have HSM := Lib.hid hSM
                        clear hSM
                        go_wp2_with fail
                        refine HSM.out.mono ?_
                        rintro e y7 ⟨rfl, qq7, rfl⟩
                        have hb7 := below_dn y6 qq7
                        generalize y6.drewN qq7 = y7 at *
                        have HB7 := Lib.hid (since_step HB6.out hb7)
                        have HD7 := Lib.hid (HD6.out.below hb7)
                        have HV7 := Lib.hid (HV6.out.below hb7)
                        have HW7 := Lib.hid (HW6.out.below hb7)
                        have HM7 := Lib.hid (HM6.out.below hb7)
                        have HT7 := Lib.hid (HT6.out.below hb7)
                        have HU7 := Lib.hid (HU6.out.below hb7)
                        have HT7n := Lib.hid (HT6n.out.below hb7)
                        clear hb7 HSM
                        have HRC := Lib.hid (vrecords_any y7 HV7.out (fun r hr => by have := HRL.out r hr; omega))
                        go_wp2_with fail
                        refine HRC.out.mono ?_
                        rintro e y8 ⟨⟨A8, c8, S8, rfl, own8, map8, or8⟩, hb8⟩
                        rw [HVL.out] at map8
                        have HB8 := Lib.hid (since_step HB7.out hb8)
                        have HD8 := Lib.hid (HD7.out.below hb8)
                        have HV8 := Lib.hid (HV7.out.below hb8)
                        have HW8 := Lib.hid (HW7.out.below hb8)
                        have HM8 := Lib.hid (HM7.out.below hb8)
                        have HT8 := Lib.hid (HT7.out.below hb8)
                        have HU8 := Lib.hid (HU7.out.below hb8)
                        have HT8n := Lib.hid (HT7n.out.below hb8)
                        have HO8 := Lib.hid own8
                        have HMP8 := Lib.hid map8
                        have HOR8 := Lib.hid or8
                        have HSN8 : Hid (S8.length ≤ k ∧ ∀ r ∈ S8, r.l.length ≤ 250) := Lib.hid ⟨by rw [← List.length_map (f := RowS.l), HMP8.out]; exact HXL.out.1, fun r hr => HXL.out.2.2 r.l (by rw [← HMP8.out]; exact List.mem_map.2 ⟨r, hr, rfl⟩)⟩
                        clear own8 map8 or8 hb8 HRC
                        have hSM := rsame8_any A8 MA c8 mc S8 RM y8 (by have := HSN8.out; omega) (by have := HLN.out; omega) (Sl.of_own HO8.out) HM8.out.1.sl (fun r hr => ⟨Sl.of_own (HOR8.out r hr), by have := HSN8.out.2 r hr; omega⟩) (fun r hr => ⟨(HM8.out.2 r hr).sl, by have := HLN.out.2.2.2.1 r hr; omega⟩)
                        rw [HMP8.out, decide_eq_true Hhm2.out.2] at hSM
                        have HSM := Lib.hid hSM
                        clear hSM
                        go_wp2_with fail
                        refine HSM.out.mono ?_
                        rintro e y9 ⟨rfl, hb9⟩
                        have HB9 := Lib.hid (since_step HB8.out hb9)
                        have HD9 := Lib.hid (HD8.out.below hb9)
                        have HV9 := Lib.hid (HV8.out.below hb9)
                        have HW9 := Lib.hid (HW8.out.below hb9)
                        have HM9 := Lib.hid (HM8.out.below hb9)
                        have HT9 := Lib.hid (HT8.out.below hb9)
                        have HU9 := Lib.hid (HU8.out.below hb9)
                        have HT9n := Lib.hid (HT8n.out.below hb9)
                        clear hb9 HSM
                        have HRC := Lib.hid (vrecords_any y9 HV9.out (fun r hr => by have := HRL.out r hr; omega))
                        go_wp2_with fail
                        refine HRC.out.mono ?_
                        rintro e y10 ⟨⟨A10, c10, S10, rfl, own10, map10, or10⟩, hb10⟩
                        rw [HVL.out] at map10
                        have HB10 := Lib.hid (since_step HB9.out hb10)
                        have HD10 := Lib.hid (HD9.out.below hb10)
                        have HV10 := Lib.hid (HV9.out.below hb10)
                        have HW10 := Lib.hid (HW9.out.below hb10)
                        have HM10 := Lib.hid (HM9.out.below hb10)
                        have HT10 := Lib.hid (HT9.out.below hb10)
                        have HU10 := Lib.hid (HU9.out.below hb10)
                        have HT10n := Lib.hid (HT9n.out.below hb10)
                        have HO10 := Lib.hid own10
                        have HMP10 := Lib.hid map10
                        have HOR10 := Lib.hid or10
                        have HSN10 : Hid (S10.length ≤ k ∧ ∀ r ∈ S10, r.l.length ≤ 250) := Lib.hid ⟨by rw [← List.length_map (f := RowS.l), HMP10.out]; exact HXL.out.1, fun r hr => HXL.out.2.2 r.l (by rw [← HMP10.out]; exact List.mem_map.2 ⟨r, hr, rfl⟩)⟩
                        clear own10 map10 or10 hb10 HRC
                        have HRX : Hid (RowsX (blkV b g h2 s2 ((openV d.S 5).sc.row A2 c2)) y10 A10 S10) := Lib.hid (RowsX.own HO10.out HOR10.out (fun y hy => (fun h => ⟨h, h⟩) (blkV_lt HD9.out HV9.out y hy)))
                        go_wp2_with fail
                        go_roundw
                        case rel => exact ⟨j + 1, openV d.S 5, v2, h2, s2, A2, c2, R2, SA2, k2, A3, c3, SX, A3, c3, SX, A10, c10, S10, A10, c10, S10, by have := HJ2.out; omega, rfl, rfl, rfl, rfl, rfl, by go_num, HD10, HV10, Lib.hid (fun _ => ⟨rfl, rfl, HMP10.out, rfl, HMP10.out⟩), Lib.hid (.inl ⟨rfl, HMP10.out.symm⟩), HT10n, HT10n, HRX, HRX, Lib.hid ⟨HSN10.out.1, HSN10.out.1, HSN10.out.2, HSN10.out.2, HXL.out.2.1, HXL.out.2.1⟩, HB10.out⟩
                        case measure => simp [intOf]; have := HJ2.out; omega
                    · have Hhb1 := Lib.hid hb1
                      clear hb1
                      have hSM := same_n A3 TA c3 tc SX.length st.length SX st y3 rfl rfl (by have := HXL.out; unfold maxLen; omega) (by have := HLN.out; unfold maxLen; omega) HT3n.out.sl HT3.out.sl
                      rw [decide_eq_false Hhb1.out] at hSM
                      have HSM := Lib.hid hSM
                      clear hSM
                      go_wp2_with fail
                      refine HSM.out.mono ?_
                      rintro e y4 ⟨rfl, qq4, rfl⟩
                      have hb4 := below_dn y3 qq4
                      generalize y3.drewN qq4 = y4 at *
                      have HB4 := Lib.hid (since_step HB3.out hb4)
                      have HD4 := Lib.hid (HD3.out.below hb4)
                      have HV4 := Lib.hid (HV3.out.below hb4)
                      have HW4 := Lib.hid (HW3.out.below hb4)
                      have HM4 := Lib.hid (HM3.out.below hb4)
                      have HT4 := Lib.hid (HT3.out.below hb4)
                      have HU4 := Lib.hid (HU3.out.below hb4)
                      have HT4n := Lib.hid (HT3n.out.below hb4)
                      clear hb4 HSM
                      have hno : ¬ (SX = st ∧ X = RW.map RowS.l) := fun h => Hhb1.out h.1
                      have Hhno := Lib.hid hno
                      clear hno
                      have hm2 : SX = su ∧ X = RM.map RowS.l := by
                        rcases HMAT.out with h1 | h1
                        · exact absurd h1 Hhno.out
                        · exact h1
                      have Hhm2 := Lib.hid hm2
                      clear hm2
                      have hSM := same_n A3 UA c3 uc SX.length su.length SX su y4 rfl rfl (by have := HXL.out; unfold maxLen; omega) (by have := HLN.out; unfold maxLen; omega) HT4n.out.sl HU4.out.sl
                      rw [decide_eq_true Hhm2.out.1] at hSM
                      have HSM := Lib.hid hSM
                      clear hSM
                      go_wp2_with fail
                      refine HSM.out.mono ?_
                      rintro e y5 ⟨rfl, qq5, rfl⟩
                      have hb5 := below_dn y4 qq5
                      generalize y4.drewN qq5 = y5 at *
                      have HB5 := Lib.hid (since_step HB4.out hb5)
                      have HD5 := Lib.hid (HD4.out.below hb5)
                      have HV5 := Lib.hid (HV4.out.below hb5)
                      have HW5 := Lib.hid (HW4.out.below hb5)
                      have HM5 := Lib.hid (HM4.out.below hb5)
                      have HT5 := Lib.hid (HT4.out.below hb5)
                      have HU5 := Lib.hid (HU4.out.below hb5)
                      have HT5n := Lib.hid (HT4n.out.below hb5)
                      clear hb5 HSM
                      have HRC := Lib.hid (vrecords_any y5 HV5.out (fun r hr => by have := HRL.out r hr; omega))
                      go_wp2_with fail
                      refine HRC.out.mono ?_
                      rintro e y6 ⟨⟨A6, c6, S6, rfl, own6, map6, or6⟩, hb6⟩
                      rw [HVL.out] at map6
                      have HB6 := Lib.hid (since_step HB5.out hb6)
                      have HD6 := Lib.hid (HD5.out.below hb6)
                      have HV6 := Lib.hid (HV5.out.below hb6)
                      have HW6 := Lib.hid (HW5.out.below hb6)
                      have HM6 := Lib.hid (HM5.out.below hb6)
                      have HT6 := Lib.hid (HT5.out.below hb6)
                      have HU6 := Lib.hid (HU5.out.below hb6)
                      have HT6n := Lib.hid (HT5n.out.below hb6)
                      have HO6 := Lib.hid own6
                      have HMP6 := Lib.hid map6
                      have HOR6 := Lib.hid or6
                      have HSN6 : Hid (S6.length ≤ k ∧ ∀ r ∈ S6, r.l.length ≤ 250) := Lib.hid ⟨by rw [← List.length_map (f := RowS.l), HMP6.out]; exact HXL.out.1, fun r hr => HXL.out.2.2 r.l (by rw [← HMP6.out]; exact List.mem_map.2 ⟨r, hr, rfl⟩)⟩
                      clear own6 map6 or6 hb6 HRC
                      have hSM := rsame8_any A6 MA c6 mc S6 RM y6 (by have := HSN6.out; omega) (by have := HLN.out; omega) (Sl.of_own HO6.out) HM6.out.1.sl (fun r hr => ⟨Sl.of_own (HOR6.out r hr), by have := HSN6.out.2 r hr; omega⟩) (fun r hr => ⟨(HM6.out.2 r hr).sl, by have := HLN.out.2.2.2.1 r hr; omega⟩)
                      rw [HMP6.out, decide_eq_true Hhm2.out.2] at hSM
                      have HSM := Lib.hid hSM
                      clear hSM
                      go_wp2_with fail
                      refine HSM.out.mono ?_
                      rintro e y7 ⟨rfl, hb7⟩
                      have HB7 := Lib.hid (since_step HB6.out hb7)
                      have HD7 := Lib.hid (HD6.out.below hb7)
                      have HV7 := Lib.hid (HV6.out.below hb7)
                      have HW7 := Lib.hid (HW6.out.below hb7)
                      have HM7 := Lib.hid (HM6.out.below hb7)
                      have HT7 := Lib.hid (HT6.out.below hb7)
                      have HU7 := Lib.hid (HU6.out.below hb7)
                      have HT7n := Lib.hid (HT6n.out.below hb7)
                      clear hb7 HSM
                      have HRC := Lib.hid (vrecords_any y7 HV7.out (fun r hr => by have := HRL.out r hr; omega))
                      go_wp2_with fail
                      refine HRC.out.mono ?_
                      rintro e y8 ⟨⟨A8, c8, S8, rfl, own8, map8, or8⟩, hb8⟩
                      rw [HVL.out] at map8
                      have HB8 := Lib.hid (since_step HB7.out hb8)
                      have HD8 := Lib.hid (HD7.out.below hb8)
                      have HV8 := Lib.hid (HV7.out.below hb8)
                      have HW8 := Lib.hid (HW7.out.below hb8)
                      have HM8 := Lib.hid (HM7.out.below hb8)
                      have HT8 := Lib.hid (HT7.out.below hb8)
                      have HU8 := Lib.hid (HU7.out.below hb8)
                      have HT8n := Lib.hid (HT7n.out.below hb8)
                      have HO8 := Lib.hid own8
                      have HMP8 := Lib.hid map8
                      have HOR8 := Lib.hid or8
                      have HSN8 : Hid (S8.length ≤ k ∧ ∀ r ∈ S8, r.l.length ≤ 250) := Lib.hid ⟨by rw [← List.length_map (f := RowS.l), HMP8.out]; exact HXL.out.1, fun r hr => HXL.out.2.2 r.l (by rw [← HMP8.out]; exact List.mem_map.2 ⟨r, hr, rfl⟩)⟩
                      clear own8 map8 or8 hb8 HRC
                      have HRX : Hid (RowsX (blkV b g h2 s2 ((openV d.S 5).sc.row A2 c2)) y8 A8 S8) := Lib.hid (RowsX.own HO8.out HOR8.out (fun y hy => (fun h => ⟨h, h⟩) (blkV_lt HD7.out HV7.out y hy)))
                      go_wp2_with fail
                      go_roundw
                      case rel => exact ⟨j + 1, openV d.S 5, v2, h2, s2, A2, c2, R2, SA2, k2, A3, c3, SX, A3, c3, SX, A8, c8, S8, A8, c8, S8, by have := HJ2.out; omega, rfl, rfl, rfl, rfl, rfl, by go_num, HD8, HV8, Lib.hid (fun _ => ⟨rfl, rfl, HMP8.out, rfl, HMP8.out⟩), Lib.hid (.inl ⟨rfl, HMP8.out.symm⟩), HT8n, HT8n, HRX, HRX, Lib.hid ⟨HSN8.out.1, HSN8.out.1, HSN8.out.2, HSN8.out.2, HXL.out.2.1, HXL.out.2.1⟩, HB8.out⟩
                      case measure => simp [intOf]; have := HJ2.out; omega
                  · obtain rfl : j = 2 := by omega
                    obtain ⟨rfl, e2, e3, e4, e5⟩ := HJ.out (by decide)
                    have HB1 := Lib.hid hB1
                    have HKF : Hid (K10 d.fresh (openV d.S 5) ((k + 1 + 1 : Nat) : Int) st (RW.map RowS.l) su (RM.map RowS.l)) := Lib.hid ⟨fun _ => ⟨era, by have := HLIFE.out; omega, by rw [e2, e3]; exact HA10.out⟩, fun ho => absurd (show (true : Bool) = false from ho) (by decide), HLIFE.out.1, HLIFE.out.2.1⟩
                    have HUF : Hid (U10 d.fresh (openV d.S 5) ((k + 1 + 1 : Nat) : Int)) := Lib.hid ⟨HOPN.out.1, by obtain ⟨q, ml, hsc, _⟩ := HA10.out.sc; rw [hsc]; exact Nat.le_refl _, HA10.out.each, by rw [HA10.out.er]; omega, by rw [HA10.out.er]; have := HLIFE.out; omega⟩
                    clear e2 e3 e4 e5 hB1
                    go_wp2_with fail
                    go_roundw
                    case rel => exact ⟨k + 1, d.fresh, openV d.S 5, v, h, s, A, c, R, SA, sk, TA, tc, st, UA, uc, su, WA, wc, RW, MA, mc, RM, by omega, by omega, rfl, rfl, rfl, rfl, rfl, by go_num, ⟨_, _, HD1.out⟩, HV1, HKF, HUF, HT1, HU1, HW1, HM1, Lib.hid (by have := HLN.out; exact ⟨by omega, by omega, by rw [HVL.out]; have := HXL.out; omega, this.2.2⟩), HB1.out⟩
                    case measure => simp [intOf]; omega
              · have hk0 : (kind == 0) = false := by simpa using hkind
                have hk1 : (kind == 1) = false := by simpa using hkind1
                have hk2 : (kind == 2) = false := by simpa using hkind2
                have hk3 : (kind == 3) = false := by simpa using hkind3
                clear hkind hkind1 hkind2 hkind3
                go_wp2_with fail
                go_roundw
                case rel => exact ⟨k + 1, d, x, v, h, s, A, c, R, SA, sk, TA, tc, st, UA, uc, su, WA, wc, RW, MA, mc, RM, by omega, by omega, rfl, rfl, rfl, rfl, rfl, by go_num, ⟨_, _, HD.out⟩, HVV, Lib.hid (HK.out.up (by omega)), Lib.hid (by have := HU.out; exact ⟨this.len, this.t, this.each, this.er.1, by have := this.er.2; omega⟩), HTS, HUS, HWS, HMS, Lib.hid (by have := HLN.out; exact ⟨by omega, by omega, by omega, this.2.2.2⟩), HBW.out⟩
                case measure => simp [intOf]; omega
      · obtain rfl : k = 30 := by omega
        have hlk1 : (30 : Int) < (L.length : Int) := by omega
        have hlk2 : ¬ (((30 : Nat) : Int) < 30) := by omega
        have hlk3 : ¬ ((30 : Int) < 30) := by omega
        go_wp2_with fail
        refine (HLV.out _).mono ?_
        rintro e v9 ⟨rfl, hb9⟩
        have hB9 := since_step hBW hb9
        go_wp2_with fail
        go_ret
        exact ⟨rfl, hB9⟩
    · obtain rfl : k = L.length := by omega
      have hlk1 : ¬ (L.length : Int) < (L.length : Int) := by omega
      go_wp2_with fail
      refine (HLV.out _).mono ?_
      rintro e v9 ⟨rfl, hb9⟩
      have hB9 := since_step hBW hb9
      go_wp2_with fail
      go_ret
      exact ⟨rfl, hB9⟩
end Go.Proofs.Ytiggcpfmmgmncaa
end
