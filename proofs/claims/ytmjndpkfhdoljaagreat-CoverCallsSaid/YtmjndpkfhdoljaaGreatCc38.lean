import Derived.BigQuiet
import Derived.Deep.CutBlock
import Derived.Deep.CutRange
import Derived.Deep.DeepCutAuto
import Derived.Test.YtmjndpkfhdoljaaGreatCc36
import Derived.Test.YtmjndpkfhdoljaaGreatCc37
set_option maxHeartbeats 16000000
set_option maxRecDepth 100000
set_option linter.unusedVariables false
set_option linter.unusedSimpArgs false
namespace Go.Proofs.YtmjndpkfhdoljaaGreat
open Go.ChangeShapes Go.WideShapes Go.ChangeAt Go.RowKit
section
theorem GoodA.tab27 {w : World} : ∀ {l : List Ac}, GoodA w l → ∃ acs : List Cn, Tab w l acs ∧ ∀ c ∈ acs, c.L.length ≤ 20 ∧ okC c.id c.mem c.kind c.L
  | [], _ => ⟨[], Tab.nil w, fun c h => by cases h⟩
  | g :: l, h => by
    obtain ⟨acs, h1, h2⟩ := GoodA.tab27 (l := l) fun x hx => h x (List.mem_cons_of_mem _ hx)
    obtain ⟨L, e1, e2, e3, e4⟩ := h g (List.mem_cons_self ..)
    refine ⟨⟨g.id, g.mem, g.kind, L⟩ :: acs, Tab.cons.2 ⟨⟨rfl, rfl, rfl, e1, e3⟩, h1⟩, fun c hc => ?_⟩
    rcases List.mem_cons.1 hc with rfl | hc
    · exact ⟨e2, e4⟩
    · exact h2 c hc
theorem walk_CoverCalls (a0 : Array Value) (a1 : Option Addr) (n1 c1 : Nat) (w : World) (w0 : Rd w (.cat (.sl (.cat (.int .i64) (.cat (.int .i64) (.cat (.int .i64) .nil)))) (.cat (.sl (.cat (.int .i64) (.cat (.int .i64) (.cat (.int .i64) (.cat (.int .i64) (.cat (.sl (.int .i64)) .nil)))))) (.cat (.sl (.cat (.cat (.int .i64) (.cat (.int .i64) .nil)) (.cat (.sl (.cat (.int .i64) (.cat (.int .i64) .nil))) .nil))) (.cat (.sl (.cat (.cat (.int .i64) (.cat (.int .i64) .nil)) (.cat (.int .i64) .nil))) (.cat (.sl (.cat (.cat (.int .i64) (.cat (.int .i64) .nil)) (.cat (.sl (.cat (.int .i64) (.cat (.int .i64) (.cat (.int .i64) .nil)))) .nil))) .nil))))) a0.toList) (w1 : Rd w (.sl (.cat (.int .i64) (.cat (.int .i64) (.cat (.int .i64) (.cat (.sl (.int .i64)) .nil))))) [.slice a1 n1 c1]) :
    Calls Tryz.prog 4 #[.agg a0, .slice a1 n1 c1] w fun e w' => e = .returned (.bool true) ∧ Below w.heap.size w w' := by
  obtain ⟨aA, ac, al, iA, ic, li, pA, pc, lp, fA, fc, fl, hA, hc, lh, rfl, s1, s2, g2, s3, g3, s4, k4, m4, q4, s5, g5⟩ := rd_side w0
  obtain ⟨l, rfl, hlc, hlm, hsl, hdp⟩ := rd_accts w1
  clear w0 w1
  have hB0 := since_alloc (Below.refl _ w) (.cells #[.slice aA al.length ac, .slice iA li.length ic, .slice pA lp.length pc, .slice fA fl.length fc, .slice hA lh.length hc] 28)
  have K1 := Bk.new w #[.slice aA al.length ac, .slice iA li.length ic, .slice pA lp.length pc, .slice fA fl.length fc, .slice hA lh.length hc] 28
  have HFW := Lib.hid (few27_any aA ac al iA ic li pA pc lp fA fc fl hA hc lh (w.alloc (.cells #[.slice aA al.length ac, .slice iA li.length ic, .slice pA lp.length pc, .slice fA fl.length fc, .slice hA lh.length hc] 28)) (s1.below hB0) (s2.below hB0) (fun g hg => by obtain ⟨i, hi⟩ := g2 g hg; exact ⟨i, hi.below hB0⟩) (s3.below hB0) (fun g hg => (g3 g hg).below hB0) (s4.below hB0) k4 m4 q4 (s5.below hB0) (fun g hg => by obtain ⟨L, h1, h2, h3, h4, h5⟩ := g5 g hg; exact ⟨L, h1, h2, h3, h4.below hB0, h5⟩))
  have HLV := Lib.hid (fun V => lives27_any V)
  have HSL : Hid (∀ V, Below w.heap.size w V → Sl V a1 (rc Ac.cells l)) := Lib.hid fun V h => hsl.below h
  have HDP := Lib.hid hdp
  clear s1 s2 g2 s3 g3 s4 k4 m4 q4 s5 g5 hsl hdp
  go_enter Tryz.func4, Tryz.ntmps4
  go_upto_region 1 with fail
  generalize hWW : w.alloc (.cells #[.slice aA al.length ac, .slice iA li.length ic, .slice pA lp.length pc, .slice fA fl.length fc, .slice hA lh.length hc] 28) = W at *
  clear hWW
  have p0 := K1.2 0
  have p1 := K1.2 1
  have p2 := K1.2 2
  have p3 := K1.2 3
  have p4 := K1.2 4
  simp at p0 p1 p2 p3 p4
  go_wp2_with fail
  refine HFW.out.mono ?_
  rintro e y1 ⟨⟨zA, zac, asl, jA, jc, mi, is, qA, qc, mp, cs, gA, gc, ml, kA, kc, mh, hs, rfl, hd, hbnd⟩, hb⟩
  have hB1 := since_step hB0 hb
  clear p0 p1 p2 p3 p4 K1 hb HFW hB0
  have K := Bk.new y1 #[.slice zA asl.length zac, .slice jA mi.length jc, .slice qA mp.length qc, .slice gA ml.length gc, .slice kA mh.length kc] 34
  have hB2 := since_alloc hB1 (.cells #[.slice zA asl.length zac, .slice jA mi.length jc, .slice qA mp.length qc, .slice gA ml.length gc, .slice kA mh.length kc] 34)
  have HDB := Lib.hid (And.intro (hd.below ((Below.refl y1.heap.size y1).alloc (Nat.le_refl _) (.cells #[.slice zA asl.length zac, .slice jA mi.length jc, .slice qA mp.length qc, .slice gA ml.length gc, .slice kA mh.length kc] 34))) hbnd)
  clear hd hbnd
  go_upto_region 2 with fail
  generalize hWW : y1.alloc (.cells #[.slice zA asl.length zac, .slice jA mi.length jc, .slice qA mp.length qc, .slice gA ml.length gc, .slice kA mh.length kc] 34) = Y at *
  generalize hGG : y1.heap.size = gy at *
  clear hWW hGG
  have HQ : Hid (∀ V, Below Y.heap.size Y V → V.cell? ⟨gy, 0, none⟩ = some (.slice zA asl.length zac) ∧ V.cell? ⟨gy, 1, none⟩ = some (.slice jA mi.length jc) ∧ V.cell? ⟨gy, 2, none⟩ = some (.slice qA mp.length qc) ∧ V.cell? ⟨gy, 3, none⟩ = some (.slice gA ml.length gc) ∧ V.cell? ⟨gy, 4, none⟩ = some (.slice kA mh.length kc)) := Lib.hid fun V h => ⟨(K.below h).2 0, (K.below h).2 1, (K.below h).2 2, (K.below h).2 3, (K.below h).2 4⟩
  have HB : Hid (∀ V, Below Y.heap.size Y V → Below w.heap.size w V) := Lib.hid fun V h => hB2.trans (h.mono hB2.size)
  clear K hB1 hB2
  go_upto_block 0 with fail
  go_cut [6] (fun out wx => ∃ (R : List Ac) (A' : Option Addr) (c' : Nat), out = .slice A' R.length c' ∧ R.length ≤ 8 ∧ wx.ownsRow Y.heap.size 31 4 (.slice A' R.length c') R.length (rc Ac.cells R) ∧ Deep w R ∧ Below Y.heap.size Y wx)
  case first =>
    go_wp2_with fail
    go_loopw [6, 7] (fun out iv wr => ∃ (k : Nat) (R : List Ac) (A' : Option Addr) (c' : Nat), k ≤ l.length ∧ k ≤ 8 ∧ iv = .int .i64 k ∧ out = .slice A' R.length c' ∧ R.length = k ∧ wr.ownsRow Y.heap.size 31 4 (.slice A' R.length c') R.length (rc Ac.cells R) ∧ Deep w R ∧ Below Y.heap.size Y wr) (fun _ iv _ => l.length - (intOf iv).toNat)
    case atStart => exact ⟨0, [], none, 0, by omega, by omega, rfl, rfl, rfl, own_nil _ _ _, (fun g hg => by cases hg), Below.refl _ _⟩
    case round =>
      obtain ⟨k, R, A', c', hk, hk8, rfl, rfl, hRk, hown, hdeep, hB⟩ := hrel
      by_cases hlt : k < l.length ∧ k < 8
      · obtain ⟨hlt, hlt8⟩ := hlt
        have hlk : (k : Int) < (l.length : Int) := by omega
        have hl8 : (k : Int) < 8 := by omega
        have hge : (0 : Int) ≤ (k : Int) := by omega
        have HDE := Lib.hid hdeep
        have HRK := Lib.hid hRk
        have hr8 : R.length ≤ 7 := by omega
        clear hRk
        obtain ⟨b, o, rfl, hbw, hg⟩ := (HSL.out _ (HB.out _ hB)).ac hlt
        obtain ⟨L, e1, e2, e3, e4⟩ := HDP.out _ (List.getElem_mem hlt)
        clear hdeep
        generalize l[k] = g at *
        obtain ⟨cid, cmem, ckind, GA, gl, GC⟩ := g
        obtain ⟨g0, g1, g2, g3⟩ := hg
        simp only at g0 g1 g2 g3 e1 e2 e3 e4
        subst e1
        have HSH := Lib.hid (short25_any cid cmem ckind GA GC L wr e2 e3 (e4.below (HB.out _ hB)))
        have HD1 : Hid (Deep w (R ++ [⟨cid, cmem, ckind, GA, (L.take 20).length, GC⟩])) := Lib.hid fun x hx => by
          rcases List.mem_append.1 hx with hx | hx
          · exact HDE.out x hx
          · rw [List.mem_singleton.1 hx]
            have h := e4.take (20 * 1)
            rw [rc_take Nt.len] at h
            exact ⟨L.take 20, rfl, by simp; omega, h⟩
        clear e2 e3 e4 HDE
        generalize (L.take 20).length = tl at *
        go_wp2_with fail
        refine HSH.out.mono ?_
        rintro e y3 ⟨rfl, hb⟩
        have hB3 := since_step hB hb
        have hown3 := own_below hown hb
        have hsz3 := hB3.size
        clear hb hown g0 g1 g2 g3 HSH
        go_wp2_with (first
          | (at_builtin; refine wpList_app rfl (.tmp 28) (.tmp 34) rfl EAc rfl rfl (hown3.alloc _) (m := 1) (news := (⟨cid, cmem, ckind, GA, tl, GC⟩ : Ac).cells) rfl (Sl.new_ _ _ _) (Ac.one _) (by unfold maxLen; omega) (by omega) (by simp only [World.size_alloc]; omega) ?_; intro A2 c2 w3 hown4 hg3 hb3)
          | fail)
        go_roundw
        case rel => exact ⟨k + 1, R ++ [⟨cid, cmem, ckind, GA, tl, GC⟩], A2, c2, by omega, by omega, by go_num, by simp, by rw [List.length_append, HRK.out]; rfl, by rw [rc_append]; simpa [rc] using hown4, HD1.out, (since_alloc hB3 _).trans hb3⟩
        case measure => simp [intOf]; omega
      · have HDE := Lib.hid hdeep
        have hr8 : R.length ≤ 8 := by omega
        clear hRk hdeep
        by_cases hkl : k < l.length
        · have hlk : (k : Int) < (l.length : Int) := by omega
          obtain rfl : k = 8 := by omega
          go_wp2_with fail
          go_meet
          case rel => exact ⟨R, A', c', rfl, hr8, hown, HDE.out, hB⟩
        · obtain rfl : k = l.length := by omega
          go_wp2_with fail
          go_meet
          case rel => exact ⟨R, A', c', rfl, hr8, hown, HDE.out, hB⟩
  case rest =>
    obtain ⟨R, A', c', rfl, hr8, hown, hdeep, hB⟩ := hcut
    have HDE := Lib.hid hdeep
    clear hdeep
    generalize wc = wr at *
    go_wp2_with fail
    refine (rtableq_any2 A' c' R wr (Sl.of_own hown) (HDE.out.below (HB.out _ hB))).mono ?_
    rintro e y4 ⟨⟨R2, A2, c2, rfl, own2, _, hgood, _, hR2⟩, hb⟩
    have hB4 := since_step hB hb
    obtain ⟨acs, htab, hacs⟩ := (hgood.below hb).tab27
    have HCA := calls_any zA zac asl jA jc mi is qA qc mp cs gA gc ml kA kc mh hs A2 c2 R2 acs y4 HDB.out.2 (by omega) (fun c hc => by have := (hacs c hc).1; omega) (HDB.out.1.below hB4) (Sl.of_own own2) htab
    obtain ⟨s0, s1, s2, s3, s4⟩ := HQ.out _ hB4
    have HR2 := Lib.hid hR2
    have HT4 := Lib.hid (And.intro (Sl.of_own own2) (And.intro htab hacs))
    generalize hex : (fun (c : Cn) (u : Un) => exR asl is cs ml hs c.id c.kind c.L u) = ex at *
    have HCA := Lib.hid HCA
    have HEXE := Lib.hid hex
    clear hex hb hown own2 hgood htab hacs hR2
    go_wp2_with fail
    refine HCA.out.mono ?_
    rintro e y5 ⟨hres, hb⟩
    have hB5 := since_step hB4 hb
    have HB45 : Hid (∀ V, Below y5.heap.size y5 V → Below y4.heap.size y4 V) := Lib.hid fun V h => hb.trans (h.mono hb.size)
    clear hb s0 s1 s2 s3 s4 HCA
    rcases hres with ⟨n, ⟨_, _, _, _, _, hn0⟩, rfl⟩ | ⟨hok, CA, cc_, rfl, hownC⟩
    · have bn : (n != 0) = true := by simpa using hn0
      go_wp2_with fail
      refine (HLV.out _).mono ?_
      rintro e y6 ⟨rfl, hb⟩
      have hE := since_step hB5 hb
      go_wp2_with fail
      go_ret
      exact ⟨rfl, HB.out _ hE⟩
    · have HOKX := Lib.hid hok
      have HHS := Lib.hid HT4.out.2.2
      have HTL := Lib.hid HT4.out.2.1.1
      have HCM := Lib.hid (own_capM hownC)
      have sC := Sl.of_own hownC
      have HSC : Hid (∀ V, Below y5.heap.size y5 V → Sl V CA (rc Fw.cells (outA ex acs))) := Lib.hid fun V h => sC.below h
      have HT5 : Hid (∀ V, Below y4.heap.size y4 V → Sl V A2 (rc Ac.cells R2) ∧ Tab V R2 acs) := Lib.hid fun V h => ⟨HT4.out.1.below h, HT4.out.2.1.below h⟩
      have HB5 : Hid (∀ V, Below y5.heap.size y5 V → Below Y.heap.size Y V) := Lib.hid fun V h => hB5.trans (h.mono hB5.size)
      have hr2 := HR2.out
      clear hok hownC sC HT4
      go_wp2_with fail
      go_loopw [10, 11] (fun nv iv wr => ∃ k n : Nat, k ≤ R2.length ∧ iv = .int .i64 k ∧ nv = .int .i64 n ∧ n = (outA ex (acs.take k)).length ∧ Below y5.heap.size y5 wr) (fun _ iv _ => R2.length - (intOf iv).toNat)
      case atStart => exact ⟨0, 0, by omega, rfl, rfl, by simp [outA], Below.refl _ _⟩
      case round =>
        obtain ⟨k, n, hk, rfl, rfl, hn, hBr⟩ := hrel
        by_cases hlt : k < R2.length
        · have hka : k < acs.length := by rw [← HTL.out]; exact hlt
          have hlk : (k : Int) < (R2.length : Int) := by omega
          have hge : (0 : Int) ≤ (k : Int) := by omega
          have HKL := Lib.hid hlt
          have HN0 := Lib.hid hn
          obtain ⟨hsA, htA⟩ := HT5.out _ (HB45.out _ hBr)
          obtain ⟨b, o, rfl, hbw, hg⟩ := hsA.ac hlt
          have hI := htA.2 k hlt hka
          have hcm := HHS.out _ (List.getElem_mem hka)
          have HST := Lib.hid (outA_snoc ex acs hka)
          have hAT := fun j (hj : j < (unC acs[k]).length) hm => out_at ex acs hka (j := j) hj hm
          have hOKC := fun u hu => HOKX.out _ (List.getElem_mem hka) u hu
          have hUL := unC_law hcm.2
          have hcl := hcm.1
          have hEXk : ∀ (u : Un) (A : Option Addr) (cc : Nat) (V : World), Below y5.heap.size y5 V → Sl V A (rc Nt.cells acs[k].L) → Calls Tryz.prog 9 #[.agg #[.slice zA asl.length zac, .slice jA mi.length jc, .slice qA mp.length qc, .slice gA ml.length gc, .slice kA mh.length kc], .agg #[.int .i64 acs[k].id, .int .i64 acs[k].mem, .int .i64 acs[k].kind, .slice A acs[k].L.length cc], u.val] V fun e w' => e = .returned (.tuple #[.int .i64 (ex acs[k] u).1, .int .i64 (ex acs[k] u).2]) ∧ Below V.heap.size V w' := fun u A cc V h hsn => by
            have h9 := excess_any zA zac asl jA jc mi is qA qc mp cs gA gc ml kA kc mh hs acs[k].id acs[k].mem acs[k].kind A cc acs[k].L u V HDB.out.2 (by omega) (HDB.out.1.below (HB5.out _ h)) hsn
            rw [show exR asl is cs ml hs acs[k].id acs[k].kind acs[k].L u = ex acs[k] u from congrFun (congrFun HEXE.out acs[k]) u] at h9
            exact h9
          have hSL0 := hI.sl
          clear hcm hn hsA htA
          generalize R2[k] = g at *
          generalize acs[k] = c at *
          obtain ⟨GA, GC, rfl⟩ : ∃ GA GC, g = ⟨c.id, c.mem, c.kind, GA, c.L.length, GC⟩ := ⟨_, _, hI.eq⟩
          obtain ⟨cid, cmem, ckind, cL⟩ := c
          obtain ⟨g0, g1, g2, g3⟩ := hg
          simp only at g0 g1 g2 g3 hSL0 hcl hEXk hUL
          obtain ⟨us, hus⟩ : ∃ us, unC ⟨cid, cmem, ckind, cL⟩ = us := ⟨_, rfl⟩
          have hul := nuL_len cid ckind cL
          rw [show nuL cid ckind cL = us from hus] at hUL hul
          rw [hus] at HST hAT hOKC
          have HEXC := Lib.hid (fun (u : Un) V (h : Below wr.heap.size wr V) => hEXk u GA GC V (hBr.trans (h.mono hBr.size)) (hSL0.below h))
          have HAT := Lib.hid hAT
          have HOKC := Lib.hid hOKC
          have HUL := Lib.hid hUL
          have HGX := Lib.hid (show ∀ V, Below wr.heap.size wr V → V.cell? ⟨b, o + k * 4, none⟩ = some (.int .i64 cid) ∧ V.cell? ⟨b, o + k * 4 + 1, none⟩ = some (.int .i64 cmem) ∧ V.cell? ⟨b, o + k * 4 + 2, none⟩ = some (.int .i64 ckind) ∧ V.cell? ⟨b, o + k * 4 + 3, none⟩ = some (.slice GA cL.length GC) ∧ b < V.heap.size from fun V h => ⟨(h.cell (p := ⟨b, o + k * 4, none⟩) hbw).trans g0, (h.cell (p := ⟨b, o + k * 4 + 1, none⟩) hbw).trans g1, (h.cell (p := ⟨b, o + k * 4 + 2, none⟩) hbw).trans g2, (h.cell (p := ⟨b, o + k * 4 + 3, none⟩) hbw).trans g3, Nat.lt_of_lt_of_le hbw h.size⟩)
          have HQ5 : Hid (∀ V, Below wr.heap.size wr V → V.cell? ⟨gy, 0, none⟩ = some (.slice zA asl.length zac) ∧ V.cell? ⟨gy, 1, none⟩ = some (.slice jA mi.length jc) ∧ V.cell? ⟨gy, 2, none⟩ = some (.slice qA mp.length qc) ∧ V.cell? ⟨gy, 3, none⟩ = some (.slice gA ml.length gc) ∧ V.cell? ⟨gy, 4, none⟩ = some (.slice kA mh.length kc)) := Lib.hid fun V h => HQ.out _ (HB5.out _ (hBr.trans (h.mono hBr.size)))
          have HNU := Lib.hid (runits_any_Acct4 cid cmem ckind GA GC cL (wr.alloc (.cells #[.int .i64 cid, .int .i64 0] 41)) (by omega) (hSL0.alloc _))
          have HBR := Lib.hid hBr
          have HCL := Lib.hid hcl
          have HULN := Lib.hid hul
          clear hAT hOKC hUL hEXk hus hI hSL0 hcl hul
          have ownL := own_lit (w := wr) (B := wr.heap.size) (n := 1) (size := 2) (rc Un.cells [⟨cid, 0⟩]) 41 (Nat.le_refl _) (by simp [rc, Un.cells]) (by unfold maxLen; omega)
          have hBL : Below wr.heap.size wr (wr.alloc (.cells #[.int .i64 cid, .int .i64 0] 41)) := since_alloc (Below.refl _ _) _
          have ownL : (wr.alloc (.cells #[.int .i64 cid, .int .i64 0] 41)).ownsRow wr.heap.size 41 2 (.slice (some ⟨wr.heap.size, 0, none⟩) 1 1) 1 (rc Un.cells [⟨cid, 0⟩]) := ownL
          have HOL := Lib.hid ownL
          have HBL := Lib.hid hBL
          clear ownL hBL
          go_upto_region 16 with fail
          generalize wr.alloc (.cells #[.int .i64 cid, .int .i64 0] 41) = W1 at *
          obtain ⟨kb, hkb⟩ : ∃ kb : Bool, (ckind == 3 || ckind == 4) = kb := ⟨_, rfl⟩
          have HKB := Lib.hid hkb
          have hG1 := HGX.out W1 HBL.out
          obtain ⟨g0, g1, g2, g3, gs⟩ := hG1
          clear hkb
          go_cut [78] (fun s wx => s = .bool kb ∧ wx = W1)
          case first =>
            by_cases h33 : ckind = 3
            · have k3 : (ckind == 3) = true := by simpa using h33
              have HK : Hid (kb = true) := Lib.hid (by rw [← HKB.out, k3]; rfl)
              clear h33
              go_wp2_with fail
              go_meet
              case rel => exact ⟨by rw [HK.out], rfl⟩
            · have k3 : (ckind == 3) = false := by simpa using h33
              have HK : Hid (kb = (ckind == 4)) := Lib.hid (by rw [← HKB.out, k3]; rfl)
              clear h33
              go_wp2_with fail
              go_meet
              case rel => exact ⟨by rw [HK.out], rfl⟩
          case rest =>
            obtain ⟨rfl, hw⟩ := hcut
            have hw := hw.symm
            subst hw
            go_upto_if 78 with fail
            go_cut [12] (fun s wx => ∃ (UA : Option Addr) (uc_ : Nat), s = .slice UA us.length uc_ ∧ wx.ownsRow wr.heap.size 41 2 (.slice UA us.length uc_) us.length (rc Un.cells us) ∧ Below wr.heap.size wr wx)
            case first =>
              cases kb with
              | true =>
                have HUE : Hid (unL cid ckind cL = us) := Lib.hid (by
                  have h9 := HKB.out
                  rw [← HUL.out, if_pos (by simpa using h9)])
                clear HKB HUL
                go_wp2_with fail
                refine HNU.out.mono ?_
                rintro e' y7 ⟨⟨UA, uc_, rfl, ownU⟩, hb⟩
                rw [HUE.out] at ownU ⊢
                have hBU := since_step HBL.out hb
                have ownU := own_base ownU HBL.out.size
                clear hb
                go_wp2_with fail
                go_meet
                case rel => exact ⟨UA, uc_, rfl, ownU, hBU⟩
              | false =>
                have hul1 : us = [⟨cid, 0⟩] := by
                  have h9 := HKB.out
                  rw [← HUL.out, if_neg (by simpa using h9)]
                have HU1 := Lib.hid hul1
                clear hul1 HKB HUL
                go_wp2_with fail
                go_meet
                case rel => exact ⟨some ⟨wr.heap.size, 0, none⟩, 1, by rw [HU1.out]; rfl, by rw [HU1.out]; exact HOL.out, HBL.out⟩
            case rest =>
              obtain ⟨UA, uc_, rfl, ownU, hBU⟩ := hcut
              clear HNU HOL HBL g0 g1 g2 g3 gs
              go_wp2_with fail
              generalize wr = wo at *
              go_loopw [10, 13] (fun nv iv wz => ∃ j n : Nat, j ≤ us.length ∧ iv = .int .i64 j ∧ nv = .int .i64 n ∧ n = (outA ex (acs.take k) ++ outG ex ⟨cid, cmem, ckind, cL⟩ (us.take j)).length ∧ wz.ownsRow wo.heap.size 41 2 (.slice UA us.length uc_) us.length (rc Un.cells us) ∧ Below wo.heap.size wo wz) (fun _ iv _ => us.length - (intOf iv).toNat)
              case atStart => exact ⟨0, n, Nat.zero_le _, rfl, rfl, by rw [HN0.out]; simp [outG], ownU, hBU⟩
              case round =>
                clear ownU hBU
                generalize wr = wz at *
                obtain ⟨j, n, hj, rfl, rfl, hn, ownU, hBz⟩ := hrel
                have HN := Lib.hid hn
                have HOW := Lib.hid ownU
                have HBZ := Lib.hid hBz
                clear hn ownU hBz
                by_cases hlt2 : j < us.length
                · have hjb : j ≤ 21 := by have := HULN.out; have := HCL.out; omega
                  have hlj : (j : Int) < (us.length : Int) := by omega
                  have hgj : (0 : Int) ≤ (j : Int) := by omega
                  have HJ := Lib.hid hlt2
                  obtain ⟨b2, o2, hUA, hbw2, hg2⟩ := (Sl.of_own HOW.out).un hlt2
                  have HSN := Lib.hid (outG_snoc ex ⟨cid, cmem, ckind, cL⟩ us hlt2)
                  have hATu := HAT.out j hlt2
                  have hok := HOKC.out _ (List.getElem_mem hlt2)
                  generalize us[j] = v at *
                  obtain ⟨ua, uc⟩ := v
                  obtain ⟨gu0, gu1⟩ := hg2
                  simp only at gu0 gu1
                  subst hUA
                  obtain ⟨m, e, he⟩ : ∃ m e, ex ⟨cid, cmem, ckind, cL⟩ ⟨ua, uc⟩ = (m, e) := ⟨_, _, rfl⟩
                  have hex := fun V (h : Below wo.heap.size wo V) => HEXC.out ⟨ua, uc⟩ V h
                  unfold Un.val at hex
                  simp only [he] at hex hok hATu HSN
                  subst hok
                  have HEX1 := Lib.hid hex
                  have HATm := Lib.hid hATu
                  have HUX := Lib.hid (show ∀ V, Below wz.heap.size wz V → V.cell? ⟨b2, o2 + j * 2, none⟩ = some (.int .i64 ua) ∧ V.cell? ⟨b2, o2 + j * 2 + 1, none⟩ = some (.int .i64 uc) ∧ b2 < V.heap.size from fun V h => ⟨(h.cell (p := ⟨b2, o2 + j * 2, none⟩) hbw2).trans gu0, (h.cell (p := ⟨b2, o2 + j * 2 + 1, none⟩) hbw2).trans gu1, Nat.lt_of_lt_of_le hbw2 h.size⟩)
                  clear he hex hATu gu0 gu1 hbw2
                  go_wp2_with fail
                  refine wp_region_held_drew (S := (fun V => Below wz.heap.size wz V)) (by kernel_rfl) (by exact (Below.refl _ _).drew) (fun hHeld => ?_)
                  refine tkI 0 91 rfl (by intro w hSw; obtain ⟨s0, s1, s2, s3, s4⟩ := HQ5.out _ (HBZ.out.trans ((hSw).mono HBZ.out.size)); obtain ⟨g0, g1, g2, g3, gs⟩ := HGX.out _ (HBZ.out.trans ((hSw).mono HBZ.out.size)); obtain ⟨u0, u1, us_⟩ := HUX.out _ (hSw); go_simp <;> with_reducible rfl) hHeld ?_; simp only [pqZ]
                  refine tkJ 1 92 rfl (by intro w; go_simp <;> with_reducible rfl) hHeld ?_; simp only [pqZ]
                  refine tkJ 2 93 rfl (by intro w; go_simp <;> with_reducible rfl) hHeld ?_; simp only [pqZ]
                  refine tkJ 3 94 rfl (by intro w; go_simp <;> with_reducible rfl) hHeld ?_; simp only [pqZ]
                  refine tkI 4 95 rfl (by intro w hSw; obtain ⟨s0, s1, s2, s3, s4⟩ := HQ5.out _ (HBZ.out.trans ((hSw).mono HBZ.out.size)); obtain ⟨g0, g1, g2, g3, gs⟩ := HGX.out _ (HBZ.out.trans ((hSw).mono HBZ.out.size)); obtain ⟨u0, u1, us_⟩ := HUX.out _ (hSw); go_simp <;> with_reducible rfl) hHeld ?_; simp only [pqZ]
                  refine tkJ 5 96 rfl (by intro w; go_simp <;> with_reducible rfl) hHeld ?_; simp only [pqZ]
                  refine tkJ 6 97 rfl (by intro w; go_simp <;> with_reducible rfl) hHeld ?_; simp only [pqZ]
                  refine tkJ 7 98 rfl (by intro w; go_simp <;> with_reducible rfl) hHeld ?_; simp only [pqZ]
                  refine tkI 8 99 rfl (by intro w hSw; obtain ⟨s0, s1, s2, s3, s4⟩ := HQ5.out _ (HBZ.out.trans ((hSw).mono HBZ.out.size)); obtain ⟨g0, g1, g2, g3, gs⟩ := HGX.out _ (HBZ.out.trans ((hSw).mono HBZ.out.size)); obtain ⟨u0, u1, us_⟩ := HUX.out _ (hSw); go_simp <;> with_reducible rfl) hHeld ?_; simp only [pqZ]
                  refine rdZ 9 100 rfl (by kernel_rfl) (fun K hK => ?_)
                  go_simp
                  refine (HEX1.out _ (HBZ.out.trans (hHeld.mono HBZ.out.size))).mono ?_
                  rintro e' x1 ⟨rfl, hb⟩
                  have hKeep := since_step hHeld hb
                  clear hb
                  go_wp2_with fail
                  refine hK.out _ _ (by (try dsimp only); exact hKeep) (fun hHeld => ?_); clear hK K hKeep; try simp only [pqZ]
                  refine tkJ 10 90 rfl (by intro w; go_simp <;> with_reducible rfl) hHeld ?_; simp only [pqZ]
                  refine tkJ 11 101 rfl (by intro w; go_simp <;> with_reducible rfl) hHeld ?_; simp only [pqZ]
                  refine tkJ 12 102 rfl (by intro w; go_simp <;> with_reducible rfl) hHeld ?_; simp only [pqZ]
                  refine tkJ 13 14 rfl (by intro w; go_simp <;> with_reducible rfl) hHeld ?_; simp only [pqZ]
                  refine tkJ 14 15 rfl (by intro w; go_simp <;> with_reducible rfl) hHeld ?_; simp only [pqZ]
                  refine wpAnyH_done (by kernel_rfl) ?_ _
                  have HX := Lib.hid hHeld
                  clear hHeld
                  go_wp2_with fail
                  by_cases hneg : m < 0
                  · rw [if_pos hneg] at HSN
                    obtain ⟨hnl, hcn⟩ := HATm.out hneg
                    have hnl2 : n < (outA ex acs).length := by rw [HN.out]; exact hnl
                    have hcn2 : (outA ex acs)[n] = ⟨ua, uc, m⟩ := by simp only [HN.out]; exact hcn
                    have hnl3 : ¬ ((outA ex acs).length : Int) ≤ (n : Int) := by omega
                    have hnl4 : (n : Int) < ((outA ex acs).length : Int) := by omega
                    have hnge : (0 : Int) ≤ (n : Int) := by omega
                    have hnb : n < 9223372036854775807 := by have h9 := HCM.out; unfold maxLen at h9; omega
                    have dn : decide (((outA ex acs).length : Int) ≤ (n : Int)) = false := decide_eq_false hnl3
                    have dm : decide (m < 0) = true := decide_eq_true hneg
                    obtain ⟨cb, co, hCA, hcb, hcg⟩ := (HSC.out _ (HBR.out.trans (HBZ.out.mono HBR.out.size))).fw (k := n) hnl2
                    rw [hcn2] at hcg
                    obtain ⟨gc0, gc1, gc2⟩ := hcg
                    simp only at gc0 gc1 gc2
                    subst hCA
                    have HCX := Lib.hid (show ∀ V, Below wz.heap.size wz V → V.cell? ⟨cb, co + n * 3, none⟩ = some (.int .i64 ua) ∧ V.cell? ⟨cb, co + n * 3 + 1, none⟩ = some (.int .i64 uc) ∧ V.cell? ⟨cb, co + n * 3 + 2, none⟩ = some (.int .i64 m) ∧ cb < V.heap.size from fun V h => ⟨(h.cell (p := ⟨cb, co + n * 3, none⟩) hcb).trans gc0, (h.cell (p := ⟨cb, co + n * 3 + 1, none⟩) hcb).trans gc1, (h.cell (p := ⟨cb, co + n * 3 + 2, none⟩) hcb).trans gc2, Nat.lt_of_lt_of_le hcb h.size⟩)
                    clear gc0 gc1 gc2 hcb hcn hcn2 hnl
                    skip
                    refine wp_region_held_drew (S := (fun V => Below wz.heap.size wz V)) (by kernel_rfl) (by exact HX.out.drew) (fun hHeld => ?_)
                    refine tkJ 0 103 rfl (by intro w; go_simp <;> with_reducible rfl) hHeld ?_; simp only [pqZ]
                    refine tkJ 1 104 rfl (by intro w; go_simp <;> with_reducible rfl) hHeld ?_; simp only [pqZ]
                    refine tkJ 2 105 rfl (by intro w; go_simp <;> with_reducible rfl) hHeld ?_; simp only [pqZ]
                    refine tkJ 3 106 rfl (by intro w; go_simp <;> with_reducible rfl) hHeld ?_; simp only [pqZ]
                    refine tkJ 4 107 rfl (by intro w; go_simp <;> with_reducible rfl) hHeld ?_; simp only [pqZ]
                    refine tkJ 5 108 rfl (by intro w; go_simp <;> with_reducible rfl) hHeld ?_; simp only [pqZ]
                    refine tkJ 6 109 rfl (by intro w; go_simp <;> with_reducible rfl) hHeld ?_; simp only [pqZ]
                    refine tkJ 7 110 rfl (by intro w; go_simp <;> with_reducible rfl) hHeld ?_; simp only [pqZ]
                    refine tkJ 8 111 rfl (by intro w; go_simp <;> with_reducible rfl) hHeld ?_; simp only [pqZ]
                    refine tkJ 9 112 rfl (by intro w; go_simp <;> with_reducible rfl) hHeld ?_; simp only [pqZ]
                    refine tkJ 10 113 rfl (by intro w; go_simp <;> with_reducible rfl) hHeld ?_; simp only [pqZ]
                    refine tkJ 11 114 rfl (by intro w; go_simp <;> with_reducible rfl) hHeld ?_; simp only [pqZ]
                    refine tkJ 12 115 rfl (by intro w; go_simp <;> with_reducible rfl) hHeld ?_; simp only [pqZ]
                    refine tkJ 13 116 rfl (by intro w; go_simp <;> with_reducible rfl) hHeld ?_; simp only [pqZ]
                    refine tkJ 14 117 rfl (by intro w; go_simp <;> with_reducible rfl) hHeld ?_; simp only [pqZ]
                    refine tkI 15 118 rfl (by intro w hSw; obtain ⟨c0, c1, c2, cs_⟩ := HCX.out _ (hSw); obtain ⟨u0, u1, us_⟩ := HUX.out _ (hSw); go_simp <;> with_reducible rfl) hHeld ?_; simp only [pqZ]
                    refine tkJ 16 119 rfl (by intro w; go_simp <;> with_reducible rfl) hHeld ?_; simp only [pqZ]
                    refine tkJ 17 120 rfl (by intro w; go_simp <;> with_reducible rfl) hHeld ?_; simp only [pqZ]
                    refine tkJ 18 121 rfl (by intro w; go_simp <;> with_reducible rfl) hHeld ?_; simp only [pqZ]
                    refine tkI 19 122 rfl (by intro w hSw; obtain ⟨c0, c1, c2, cs_⟩ := HCX.out _ (hSw); obtain ⟨u0, u1, us_⟩ := HUX.out _ (hSw); go_simp <;> with_reducible rfl) hHeld ?_; simp only [pqZ]
                    refine tkJ 20 123 rfl (by intro w; go_simp <;> with_reducible rfl) hHeld ?_; simp only [pqZ]
                    refine tkJ 21 124 rfl (by intro w; go_simp <;> with_reducible rfl) hHeld ?_; simp only [pqZ]
                    refine tkJ 22 125 rfl (by intro w; go_simp <;> with_reducible rfl) hHeld ?_; simp only [pqZ]
                    refine tkJ 23 126 rfl (by intro w; go_simp <;> with_reducible rfl) hHeld ?_; simp only [pqZ]
                    refine tkJ 24 127 rfl (by intro w; go_simp <;> with_reducible rfl) hHeld ?_; simp only [pqZ]
                    refine tkJ 25 128 rfl (by intro w; go_simp <;> with_reducible rfl) hHeld ?_; simp only [pqZ]
                    refine tkJ 26 129 rfl (by intro w; go_simp <;> with_reducible rfl) hHeld ?_; simp only [pqZ]
                    refine tkI 27 130 rfl (by intro w hSw; obtain ⟨c0, c1, c2, cs_⟩ := HCX.out _ (hSw); obtain ⟨u0, u1, us_⟩ := HUX.out _ (hSw); go_simp <;> with_reducible rfl) hHeld ?_; simp only [pqZ]
                    refine tkJ 28 131 rfl (by intro w; go_simp <;> with_reducible rfl) hHeld ?_; simp only [pqZ]
                    refine tkJ 29 132 rfl (by intro w; go_simp <;> with_reducible rfl) hHeld ?_; simp only [pqZ]
                    refine tkJ 30 133 rfl (by intro w; go_simp <;> with_reducible rfl) hHeld ?_; simp only [pqZ]
                    refine tkJ 31 134 rfl (by intro w; go_simp <;> with_reducible rfl) hHeld ?_; simp only [pqZ]
                    refine tkJ 32 135 rfl (by intro w; go_simp <;> with_reducible rfl) hHeld ?_; simp only [pqZ]
                    refine wpAnyH_done (by kernel_rfl) ?_ _
                    have HXX := Lib.hid hHeld
                    clear hHeld
                    go_wp2_with fail
                    go_roundw
                    case rel => exact ⟨j + 1, n + 1, by have := HJ.out; omega, by go_num, by go_num, by rw [HSN.out, ← List.append_assoc, List.length_append, ← HN.out]; rfl, own_below HOW.out HXX.out, HBZ.out.trans (HXX.out.mono HBZ.out.size)⟩
                    case measure => simp [intOf]; have := HJ.out; omega
                  · rw [if_neg hneg, List.append_nil] at HSN
                    have dm : decide (m < 0) = false := decide_eq_false hneg
                    refine wp_region_held_drew (S := (fun V => Below wz.heap.size wz V)) (by kernel_rfl) (by exact HX.out.drew) (fun hHeld => ?_)
                    refine tkJ 0 103 rfl (by intro w; go_simp <;> with_reducible rfl) hHeld ?_; simp only [pqZ]
                    refine tkJ 1 104 rfl (by intro w; go_simp <;> with_reducible rfl) hHeld ?_; simp only [pqZ]
                    refine tkJ 2 105 rfl (by intro w; go_simp <;> with_reducible rfl) hHeld ?_; simp only [pqZ]
                    refine tkJ 3 106 rfl (by intro w; go_simp <;> with_reducible rfl) hHeld ?_; simp only [pqZ]
                    refine tkJ 4 107 rfl (by intro w; go_simp <;> with_reducible rfl) hHeld ?_; simp only [pqZ]
                    refine tkJ 5 108 rfl (by intro w; go_simp <;> with_reducible rfl) hHeld ?_; simp only [pqZ]
                    refine tkO 6 109 rfl (by kernel_rfl) (by rfl) hHeld ?_; simp only [pqZ]
                    refine tkO 7 110 rfl (by kernel_rfl) (by rfl) hHeld ?_; simp only [pqZ]
                    refine tkO 8 111 rfl (by kernel_rfl) (by rfl) hHeld ?_; simp only [pqZ]
                    refine tkO 9 112 rfl (by kernel_rfl) (by rfl) hHeld ?_; simp only [pqZ]
                    refine tkO 10 113 rfl (by kernel_rfl) (by rfl) hHeld ?_; simp only [pqZ]
                    refine tkO 11 114 rfl (by kernel_rfl) (by rfl) hHeld ?_; simp only [pqZ]
                    refine tkO 12 115 rfl (by kernel_rfl) (by rfl) hHeld ?_; simp only [pqZ]
                    refine tkO 13 116 rfl (by kernel_rfl) (by rfl) hHeld ?_; simp only [pqZ]
                    refine tkO 14 117 rfl (by kernel_rfl) (by rfl) hHeld ?_; simp only [pqZ]
                    refine tkO 15 118 rfl (by kernel_rfl) (by rfl) hHeld ?_; simp only [pqZ]
                    refine tkO 16 119 rfl (by kernel_rfl) (by rfl) hHeld ?_; simp only [pqZ]
                    refine tkO 17 120 rfl (by kernel_rfl) (by rfl) hHeld ?_; simp only [pqZ]
                    refine tkO 18 121 rfl (by kernel_rfl) (by rfl) hHeld ?_; simp only [pqZ]
                    refine tkO 19 122 rfl (by kernel_rfl) (by rfl) hHeld ?_; simp only [pqZ]
                    refine tkO 20 123 rfl (by kernel_rfl) (by rfl) hHeld ?_; simp only [pqZ]
                    refine tkO 21 124 rfl (by kernel_rfl) (by rfl) hHeld ?_; simp only [pqZ]
                    refine tkO 22 125 rfl (by kernel_rfl) (by rfl) hHeld ?_; simp only [pqZ]
                    refine tkO 23 126 rfl (by kernel_rfl) (by rfl) hHeld ?_; simp only [pqZ]
                    refine tkO 24 127 rfl (by kernel_rfl) (by rfl) hHeld ?_; simp only [pqZ]
                    refine tkO 25 128 rfl (by kernel_rfl) (by rfl) hHeld ?_; simp only [pqZ]
                    refine tkO 26 129 rfl (by kernel_rfl) (by rfl) hHeld ?_; simp only [pqZ]
                    refine tkO 27 130 rfl (by kernel_rfl) (by rfl) hHeld ?_; simp only [pqZ]
                    refine tkO 28 131 rfl (by kernel_rfl) (by rfl) hHeld ?_; simp only [pqZ]
                    refine tkO 29 132 rfl (by kernel_rfl) (by rfl) hHeld ?_; simp only [pqZ]
                    refine tkO 30 133 rfl (by kernel_rfl) (by rfl) hHeld ?_; simp only [pqZ]
                    refine tkJ 31 134 rfl (by intro w; go_simp <;> with_reducible rfl) hHeld ?_; simp only [pqZ]
                    refine tkJ 32 135 rfl (by intro w; go_simp <;> with_reducible rfl) hHeld ?_; simp only [pqZ]
                    refine wpAnyH_done (by kernel_rfl) ?_ _
                    have HXX := Lib.hid hHeld
                    clear hHeld
                    go_wp2_with fail
                    go_roundw
                    case rel => exact ⟨j + 1, n, by have := HJ.out; omega, by go_num, rfl, by rw [HSN.out, ← HN.out], own_below HOW.out HXX.out, HBZ.out.trans (HXX.out.mono HBZ.out.size)⟩
                    case measure => simp [intOf]; have := HJ.out; omega
                · obtain rfl : j = us.length := by omega
                  go_wp2_with fail
                  go_roundw
                  case rel => exact ⟨k + 1, n, by have := HKL.out; omega, by go_num, rfl, by rw [HN.out, List.take_length, HST.out], HBR.out.trans (HBZ.out.mono HBR.out.size)⟩
                  case measure => simp [intOf]; have := HKL.out; omega
        · obtain rfl : k = R2.length := by omega
          rw [HTL.out, List.take_length] at hn
          subst hn
          go_wp2_with fail
          refine (HLV.out _).mono ?_
          rintro e y6 ⟨rfl, hb⟩
          have hE := since_step (HB5.out _ hBr) hb
          go_wp2_with fail
          go_ret
          exact ⟨rfl, HB.out _ hE⟩
end
end Go.Proofs.YtmjndpkfhdoljaaGreat
