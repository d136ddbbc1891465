import Derived.Test.YtmjndpkfhdoljaaGreatCm03
import Derived.Test.YtmjndpkfhdoljaaGreatCm14
import Derived.Test.YtmjndpkfhdoljaaGreatCm16
import Derived.Test.YtmjndpkfhdoljaaGreatCm24
import Derived.Deep.RegionLaw
import Derived.Lib.SliceRun
import Derived.Test.YtmjndpkfhdoljaaGreatCm01
set_option maxHeartbeats 16000000
set_option maxRecDepth 100000
set_option linter.unusedVariables false
set_option linter.unusedSimpArgs false
namespace Go.Proofs.YtmjndpkfhdoljaaGreat
open Go.ChangeShapes Go.WideShapes Go.ChangeAt Go.RowKit
section
def lotU (cs : List Pc) (u : Un) : List Lg := lotsH cs u.ac u.cl
noncomputable def netR (cs : List Pc) (us : List Un) : Int × List Lg := if isH cs = false then (3, []) else addL (us.map (lotU cs))
theorem netR_form {cs : List Pc} {us : List Un} (h : isH cs = false) : netR cs us = (3, []) := if_pos h
theorem netR_go {cs : List Pc} {us : List Un} (h : isH cs = true) : netR cs us = addL (us.map (lotU cs)) := if_neg (by simp [h])
def OS (B : Nat) (w : World) (S : List (RowS Lg)) : Prop := ∀ s ∈ S, w.ownsRow B 151 2 (.slice s.A s.l.length s.c) s.l.length (rc Lg.cells s.l)
theorem OS.below {B : Nat} {w w' : World} {S : List (RowS Lg)} (h : OS B w S) (hb : Below w.heap.size w w') : OS B w' S := fun s hs => own_below (h s hs) hb
theorem OS.kept {B B' e' s' : Nat} {w w' : World} {S : List (RowS Lg)} {v' : Value} {n' : Nat} {ys : List Value} (hne : 151 ≠ e') (h : OS B w S) (ho : w.ownsRow B' e' s' v' n' ys) (hg : w.grownBy w' v'.ownBlock) : OS B w' S := fun s hs => own_kept_types hne (h s hs) ho hg
theorem OS.rows {B : Nat} {w : World} {S : List (RowS Lg)} (h : OS B w S) : RowsOk w Lg.cells S := fun s hs => Sl.of_own (h s hs)
theorem all_len {n : Nat} : ∀ S : List (RowS Lg), (∀ s ∈ S, s.l.length ≤ n) → (RowS.all S).length ≤ S.length * n
  | [], _ => by simp [RowS.all]
  | s :: S, h => by
    have ih := all_len S fun x hx => h x (List.mem_cons_of_mem _ hx)
    have h1 := h s List.mem_cons_self
    rw [RowS.all_cons, List.length_append, List.length_cons, Nat.add_mul, Nat.one_mul]
    omega
theorem mem_all {S : List (RowS Lg)} {y : Lg} (h : y ∈ RowS.all S) : ∃ s ∈ S, y ∈ s.l := by
  unfold RowS.all at h
  rw [List.mem_flatten] at h
  obtain ⟨l, hl, hy⟩ := h
  obtain ⟨s, hs, rfl⟩ := List.mem_map.1 hl
  exact ⟨s, hs, hy⟩
theorem bnet_any (A : Option Addr) (cap : Nat) (l : List Po) (cs : List Pc) (UA : Option Addr) (uc_ : Nat) (us : List Un) (w : World) (hl : l.length ≤ 900000) (hcl : ∀ g ∈ cs, g.L.length ≤ 1000) (h6 : ∀ g ∈ cs, ∀ y ∈ g.L, In64 y.qty) (hul : us.length ≤ 800) (hs : Sl w A (rc Po.cells l)) (ht : PoTab w l cs) (hu : Sl w UA (rc Un.cells us)) :
    Calls Tryz.prog 57 #[.slice A l.length cap, .slice UA us.length uc_] w fun e w' => GRes w.heap.size w' e (netR cs us) ∧ Below w.heap.size w w' := by
  have HIS := Lib.hid (his_any A cap l cs w hl (fun g hg => Nat.le_trans (hcl g hg) (by omega)) hs ht)
  have HLO := Lib.hid (fun a c V (h : Below w.heap.size w V) => hlots_any A cap l cs a c V hl (fun g hg => Nat.le_trans (hcl g hg) (by omega)) (hs.below h) (ht.below h))
  have HSU : Hid (∀ V, Below w.heap.size w V → Sl V UA (rc Un.cells us)) := Lib.hid fun V h => hu.below h
  have hll : ∀ u : Un, (lotU cs u).length ≤ 1000 := fun u => lotsH_len hcl u.ac u.cl
  have hlq : ∀ u : Un, ∀ y ∈ lotU cs u, In64 y.qty := fun u => lots_in6 h6 u.ac u.cl
  clear hs ht hu
  cases hi : isH cs with
  | false =>
    have HR := Lib.hid (netR_form (us := us) hi)
    rw [hi] at HIS
    clear hi
    go_enter Tryz.func57, Tryz.ntmps57
    go_wp2_with fail
    refine HIS.out.mono ?_
    rintro e w1 ⟨rfl, hb⟩
    go_wp2_with fail
    go_ret2
    exact ⟨by rw [HR.out]; exact GRes.nil _ _ _, hb⟩
  | true =>
    rw [hi] at HIS
    have HR := Lib.hid (netR_go (us := us) hi)
    clear hi
    go_enter Tryz.func57, Tryz.ntmps57
    go_wp2_with fail
    refine HIS.out.mono ?_
    rintro e w1 ⟨rfl, hb⟩
    go_wp2_with (first
      | (at_make; refine wpList_mk rfl (.const (.int .i64 0)) (.tmp 13) rfl ELgL us.length rfl rfl rfl (by omega) (by unfold maxLen; omega) (Nat.le_refl _) ?_; intro W2 hownW hbW)
      | fail)
    have hownW := own_base hownW hb.size
    have hbW := since_step hb hbW
    clear hb
    go_loopw [6, 17] (fun out iv wr => ∃ (k : Nat) (S : List (RowS Lg)) (A' : Option Addr) (c' : Nat), k ≤ us.length ∧ iv = .int .i64 k ∧ out = .slice A' S.length c' ∧ S.length = k ∧ S.map RowS.l = (us.take k).map (lotU cs) ∧ wr.ownsRow w.heap.size 93 1 (.slice A' S.length c') S.length (rc RowS.cells S) ∧ OS w.heap.size wr S ∧ Below w.heap.size w wr) (fun _ iv _ => us.length - (intOf iv).toNat)
    case atStart => exact ⟨0, [], _, _, by omega, rfl, rfl, rfl, rfl, by simpa [rc] using hownW, (fun s hs => by cases hs), hbW⟩
    case round =>
      obtain ⟨k, S, A', c', hk, rfl, rfl, hSk, hS, hown, hOS, hB⟩ := hrel
      clear hownW hbW
      by_cases hlt : k < us.length
      · have hlk : (k : Int) < (us.length : Int) := by omega
        have hge : (0 : Int) ≤ (k : Int) := by omega
        obtain ⟨b, o, rfl, hbw, hg⟩ := (HSU.out _ hB).un hlt
        have HST : Hid ((us.take (k + 1)).map (lotU cs) = (us.take k).map (lotU cs) ++ [lotU cs us[k]]) := Lib.hid (by rw [take_snoc us k hlt, List.map_append]; rfl)
        have HS := Lib.hid hS
        have HSK := Lib.hid hSk
        have hS8 : S.length ≤ 800 := by omega
        clear hS hSk
        generalize us[k] = v at *
        obtain ⟨ua, uc⟩ := v
        obtain ⟨g0, g1⟩ := hg
        simp only at g0 g1
        have hsz := hB.size
        have hBA := since_alloc hB (.cells #[.int .i64 ua, .int .i64 uc] 41)
        have HL := Lib.hid (HLO.out ua uc _ hBA)
        have hownA := hown.alloc (.cells #[.int .i64 ua, .int .i64 uc] 41)
        have hOSA := hOS.below ((Below.refl wr.heap.size wr).alloc (Nat.le_refl _) (.cells #[.int .i64 ua, .int .i64 uc] 41))
        have HM : Hid (lotU cs ⟨ua, uc⟩ = lotsH cs ua uc) := Lib.hid rfl
        clear hown hOS
        generalize hM : lotsH cs ua uc = M at *
        clear hM
        go_wp2_with fail
        refine HL.out.mono ?_
        rintro e u1 ⟨⟨A1, c1, rfl, oM⟩, hb⟩
        have hB3 := since_step hBA hb
        have hown3 := own_below hownA hb
        have hOS3 := hOSA.below hb
        have oM := own_base oM hBA.size
        have hsz3 := hB3.size
        have hOS4 : OS w.heap.size u1 (S ++ [⟨A1, c1, M⟩]) := fun s hs => by
          rcases List.mem_append.1 hs with hs | hs
          · exact hOS3 s hs
          · rw [List.mem_singleton.1 hs]; exact oM
        have hOS5 := hOS4.below ((Below.refl u1.heap.size u1).alloc (Nat.le_refl _) (.cells #[.slice A1 M.length c1] 93))
        have HO5 := Lib.hid hOS5
        clear hb hownA hOSA hOS3 oM hOS4 hOS5 g0 g1
        go_wp2_with (first
          | (at_builtin; refine wpList_app rfl (.tmp 21) (.tmp 25) rfl ELgL rfl rfl (hown3.alloc _) (m := 1) (news := [.slice A1 M.length c1]) rfl (Sl.new_ _ _ _) (by intro u hu; rw [List.mem_singleton.1 hu]; rfl) (by unfold maxLen; omega) (by omega) (by simp only [World.size_alloc]; omega) ?_; intro A2 c2 w3 hown4 hg3 hb3)
          | fail)
        have hO6 := HO5.out.kept (by decide) (hown3.alloc _) hg3
        go_roundw
        case rel =>
          refine ⟨k + 1, S ++ [⟨A1, c1, M⟩], A2, c2, by omega, by go_num, by simp, by rw [List.length_append, HSK.out]; rfl, by rw [List.map_append, HS.out, HST.out, HM.out]; rfl, ?_, hO6, (since_alloc hB3 _).trans hb3⟩
          rw [rc_append]; simpa [rc, RowS.cells] using hown4
        case measure => simp [intOf]; omega
      · obtain rfl : k = us.length := by omega
        rw [List.take_length] at hS
        have hA1 : addR S = addL (us.map (lotU cs)) := by rw [addR_L, hS]
        have hsl : ∀ s ∈ S, s.l.length ≤ 1000 ∧ ∀ y ∈ s.l, In64 y.qty := fun s hs => by
          have : s.l ∈ S.map RowS.l := List.mem_map_of_mem hs
          rw [hS] at this
          obtain ⟨u, _, hu⟩ := List.mem_map.1 this
          rw [← hu]
          exact ⟨hll u, hlq u⟩
        have hal := all_len S fun s hs => (hsl s hs).1
        have hal2 : S.length * 1000 ≤ 800 * 1000 := Nat.mul_le_mul_right _ (by omega)
        have HVA := Lib.hid (vadd_any A' c' S wr (by omega) (by omega) (fun y hy => by
          obtain ⟨s, hs, hy⟩ := mem_all hy
          exact (hsl s hs).2 y hy) (Sl.of_own hown) hOS.rows)
        rw [hA1] at HVA
        clear hA1 hsl hal hal2 hS hSk hown hOS
        go_wp2_with fail
        refine HVA.out.mono ?_
        rintro e u1 ⟨⟨A1, c1, rfl, o1⟩, hb⟩
        have hB3 := since_step hB hb
        have o1 := own_base o1 hB.size
        go_wp2_with fail
        go_ret2
        exact ⟨by rw [HR.out]; exact ⟨A1, c1, rfl, o1⟩, hB3⟩
noncomputable def ofNR (is : List Ins) (cs : List Pc) (id kind : Int) (L : List Nt) (u : Un) : Int × Int := if isH cs = false then (0, 3) else if u ∉ nuL id kind L then (0, 11)
  else if (addL ((partsL id kind L u).map (lotU cs))).1 ≠ 0 then (0, (addL ((partsL id kind L u).map (lotU cs))).1) else marginR is (addL ((partsL id kind L u).map (lotU cs))).2
section
variable {is : List Ins} {cs : List Pc} {id kind : Int} {L : List Nt} {u : Un} {n : Int} {M : List Lg}
theorem ofNR_form (h : isH cs = false) : ofNR is cs id kind L u = (0, 3) := if_pos h
theorem ofNR_none (h : isH cs = true) (h2 : u ∉ nuL id kind L) : ofNR is cs id kind L u = (0, 11) := by
  unfold ofNR
  rw [if_neg (by simp [h]), if_pos h2]
theorem ofNR_err (h : isH cs = true) (h2 : u ∈ nuL id kind L) (h3 : addL ((partsL id kind L u).map (lotU cs)) = (n, M)) (hn : n ≠ 0) : ofNR is cs id kind L u = (0, n) := by
  unfold ofNR
  rw [if_neg (by simp [h]), if_neg (by simpa using h2), h3, if_pos hn]
theorem ofNR_ok (h : isH cs = true) (h2 : u ∈ nuL id kind L) (h3 : addL ((partsL id kind L u).map (lotU cs)) = (0, M)) : ofNR is cs id kind L u = marginR is M := by
  unfold ofNR
  rw [if_neg (by simp [h]), if_neg (by simpa using h2), h3, if_neg (by simp)]
end
theorem nof_any (A : Option Addr) (cap : Nat) (l : List Iq) (is : List Ins) (PA : Option Addr) (pc : Nat) (lp : List Po) (cs : List Pc) (id mem kind : Int) (CA : Option Addr) (cc : Nat) (L : List Nt) (u : Un) (w : World) (hl : l.length ≤ 900000) (hmv : ∀ i ∈ is, i.mv.length ≤ 900000) (hlp : lp.length ≤ 900000) (hpl : ∀ g ∈ cs, g.L.length ≤ 1000) (h6 : ∀ g ∈ cs, ∀ y ∈ g.L, In64 y.qty) (hL : L.length ≤ 100) (hs : Sl w A (rc Iq.cells l)) (ht : InTab w l is) (hp : Sl w PA (rc Po.cells lp)) (hpt : PoTab w lp cs) (hsL : Sl w CA (rc Nt.cells L)) :
    Calls Tryz.prog 24 #[.slice A l.length cap, .slice PA lp.length pc, .agg #[.int .i64 id, .int .i64 mem, .int .i64 kind, .slice CA L.length cc], u.val] w fun e w' => e = .returned (.tuple #[.int .i64 (ofNR is cs id kind L u).1, .int .i64 (ofNR is cs id kind L u).2]) ∧ Below w.heap.size w w' := by
  have hB0 := since_alloc (since_alloc (Below.refl _ w) (.cells #[.int .i64 id, .int .i64 mem, .int .i64 kind, .slice CA L.length cc] 31)) (.cells #[.int .i64 u.ac, .int .i64 u.cl] 41)
  have K1 := (Bk.new w #[.int .i64 id, .int .i64 mem, .int .i64 kind, .slice CA L.length cc] 31).alloc (.cells #[.int .i64 u.ac, .int .i64 u.cl] 41)
  have K2 := Bk.new (w.alloc (.cells #[.int .i64 id, .int .i64 mem, .int .i64 kind, .slice CA L.length cc] 31)) #[.int .i64 u.ac, .int .i64 u.cl] 41
  rw [World.size_alloc] at K2
  have HIS := fun V (h : Below w.heap.size w V) => his_any PA pc lp cs V hlp (fun g hg => Nat.le_trans (hpl g hg) (by omega)) (hp.below h) (hpt.below h)
  have HNU := Lib.hid (fun V (h : Below w.heap.size w V) => nunits_any id mem kind CA cc L V (by omega) (hsL.below h))
  have HCO := fun A1 c1 V h => has_un A1 c1 (nuL id kind L) u V (by have := nuL_len id kind L; omega) h
  cases hi : isH cs with
  | false =>
    have HR := Lib.hid (ofNR_form (is := is) (id := id) (kind := kind) (L := L) (u := u) hi)
    rw [hi] at HIS
    have HIS := Lib.hid HIS
    clear hi hs ht hp hpt hsL
    unfold Un.val
    go_enter Tryz.func24, Tryz.ntmps24
    go_wp2_with fail
    refine (HIS.out _ hB0).mono ?_
    rintro e w1 ⟨rfl, hb⟩
    have hB1 := since_step hB0 hb
    go_wp2_with fail
    go_ret2
    exact ⟨by rw [HR.out]; rfl, hB1⟩
  | true =>
    rw [hi] at HIS
    have HIS := Lib.hid HIS
    by_cases hm : u ∈ nuL id kind L
    · obtain ⟨n, M, hN⟩ : ∃ n M, addL ((partsL id kind L u).map (lotU cs)) = (n, M) := ⟨_, _, rfl⟩
      by_cases hn : n = 0
      · subst hn
        have HR := Lib.hid (ofNR_ok (is := is) hi hm hN)
        have hd : decide (u ∈ nuL id kind L) = true := decide_eq_true hm
        have HNE := fun UA uc_ V (h : Below w.heap.size w V) hu => bnet_any PA pc lp cs UA uc_ (partsL id kind L u) V hlp hpl h6 (by have := partsL_len id kind L u; omega) (hp.below h) (hpt.below h) hu
        rw [netR_go hi, hN] at HNE
        have HNE := Lib.hid HNE
        have HPP := Lib.hid (fun V (h : Below w.heap.size w V) => nparts_any id mem kind CA cc L u V (by omega) (hsL.below h))
        have hM6 : ∀ y ∈ M, In64 y.qty := by have h := addL_in ((partsL id kind L u).map (lotU cs)); rw [hN] at h; exact h
        have hMl : M.length ≤ 1000 := by have h := addL_len ((partsL id kind L u).map (lotU cs)); rw [hN] at h; simp only at h; omega
        have HMG := Lib.hid (fun MA mc V (h : Below w.heap.size w V) hM => gmargin_any A cap l is MA mc M V hl hmv hMl hM6 (hs.below h) (ht.below h) hM)
        rw [hd] at HCO
        have HCO := Lib.hid HCO
        clear hs ht hp hpt hsL hi hm hd h6 hpl
        clear hN
        unfold Un.val Un.cells at *
        generalize partsL id kind L u = PL at *
        generalize nuL id kind L = NU at *
        go_enter Tryz.func24, Tryz.ntmps24
        go_upto_region 1 with fail
        generalize hWW : (w.alloc (.cells #[.int .i64 id, .int .i64 mem, .int .i64 kind, .slice CA L.length cc] 31)).alloc (.cells #[.int .i64 u.ac, .int .i64 u.cl] 41) = W at *
        clear hWW
        have HQ : Hid (∀ V, Below W.heap.size W V → (V.cell? ⟨w.heap.size, 0, none⟩ = some (.int .i64 id) ∧ V.cell? ⟨w.heap.size, 1, none⟩ = some (.int .i64 mem) ∧ V.cell? ⟨w.heap.size, 2, none⟩ = some (.int .i64 kind) ∧ V.cell? ⟨w.heap.size, 3, none⟩ = some (.slice CA L.length cc)) ∧ (V.cell? ⟨w.heap.size + 1, 0, none⟩ = some (.int .i64 u.ac) ∧ V.cell? ⟨w.heap.size + 1, 1, none⟩ = some (.int .i64 u.cl))) := Lib.hid fun V h => ⟨⟨(K1.below h).2 0, (K1.below h).2 1, (K1.below h).2 2, (K1.below h).2 3⟩, ⟨(K2.below h).2 0, (K2.below h).2 1⟩⟩
        have HW0 : Hid (∀ V, Below W.heap.size W V → Below w.heap.size w V) := Lib.hid fun V h => hB0.trans (h.mono hB0.size)
        have hC := Below.refl W.heap.size W
        clear K1 K2
        obtain ⟨⟨p0, p1, p2, p3⟩, ⟨u0, u1⟩⟩ := HQ.out _ hC
        go_wp2_with fail
        refine (HIS.out _ (HW0.out _ hC)).mono ?_
        rintro e w1 ⟨rfl, hb⟩
        have hC := since_step hC hb
        clear hb
        clear p0 p1 p2 p3 u0 u1
        go_upto_region 3 with fail
        have HW1 : Hid (∀ V, Below w1.heap.size w1 V → Below W.heap.size W V) := Lib.hid fun V h => hC.trans (h.mono hC.size)
        go_wp2_with fail
        refine wp_region_held_drew (S := (fun V => Below w1.heap.size w1 V)) (by kernel_rfl) (by exact (Below.refl _ _).drew) (fun hHeld => ?_)
        refine tkI 0 15 rfl (by intro w hSw; obtain ⟨⟨p0, p1, p2, p3⟩, ⟨u0, u1⟩⟩ := HQ.out _ (HW1.out _ (hSw)); go_simp <;> with_reducible rfl) hHeld ?_; simp only [pqZ]
        refine tkI 2 17 rfl (by intro w hSw; obtain ⟨⟨p0, p1, p2, p3⟩, ⟨u0, u1⟩⟩ := HQ.out _ (HW1.out _ (hSw)); go_simp <;> with_reducible rfl) hHeld ?_; simp only [pqZ]
        refine rdZ 1 16 rfl (by kernel_rfl) (fun K hK => ?_)
        go_simp
        refine (HNU.out _ (HW0.out _ (HW1.out _ hHeld))).mono ?_
        rintro e x1 ⟨⟨A1, c1, rfl, o1⟩, hk1⟩
        have hKeep := since_step hHeld hk1
        have s1 := Sl.of_own o1
        clear o1
        go_wp2_with fail
        refine hK.out _ _ (by (try dsimp only); exact hKeep) (fun hHeld => ?_); clear hK K hKeep; try simp only [pqZ]
        refine rdZ 3 18 rfl (by kernel_rfl) (fun K hK => ?_)
        go_simp
        refine (HCO.out _ _ _ s1).mono ?_
        rintro e x2 ⟨rfl, hk1⟩
        have hKeep := since_step hHeld hk1
        go_wp2_with fail
        refine hK.out _ _ (by (try dsimp only); exact hKeep) (fun hHeld => ?_); clear hK K hKeep; try simp only [pqZ]
        refine tkJ 4 19 rfl (by intro w; go_simp <;> with_reducible rfl) hHeld ?_; simp only [pqZ]
        refine wpAnyH_done (by kernel_rfl) ?_ _
        have hC := hC.trans (hHeld.mono hC.size)
        clear hHeld HW1
        obtain ⟨⟨p0, p1, p2, p3⟩, ⟨u0, u1⟩⟩ := HQ.out _ hC
        go_wp2_with fail
        refine (HPP.out _ (HW0.out _ hC)).mono ?_
        rintro e w2 ⟨⟨A3, c3, rfl, o3⟩, hb⟩
        have hC := since_step hC hb
        have s3 := Sl.of_own o3
        clear hb o3
        clear p0 p1 p2 p3 u0 u1
        go_wp2_with fail
        refine (HNE.out _ _ _ (HW0.out _ hC) s3).mono ?_
        rintro e w3 ⟨⟨A4, c4, rfl, o4⟩, hb⟩
        have hC := since_step hC hb
        have s4 := Sl.of_own o4
        clear hb o4 s3
        simp only at s4 ⊢
        go_wp2_with fail
        refine (HMG.out _ _ _ (HW0.out _ hC) s4).mono ?_
        rintro e w4 ⟨rfl, hb⟩
        have hC := since_step hC hb
        clear hb s4
        go_wp2_with fail
        go_ret2
        exact ⟨by rw [HR.out]; rfl, HW0.out _ hC⟩
      · have HR := Lib.hid (ofNR_err (is := is) hi hm hN hn)
        have hd : decide (u ∈ nuL id kind L) = true := decide_eq_true hm
        have bn : (n != 0) = true := by simpa using hn
        have HNE := fun UA uc_ V (h : Below w.heap.size w V) hu => bnet_any PA pc lp cs UA uc_ (partsL id kind L u) V hlp hpl h6 (by have := partsL_len id kind L u; omega) (hp.below h) (hpt.below h) hu
        rw [netR_go hi, hN] at HNE
        have HNE := Lib.hid HNE
        have HPP := Lib.hid (fun V (h : Below w.heap.size w V) => nparts_any id mem kind CA cc L u V (by omega) (hsL.below h))
        rw [hd] at HCO
        have HCO := Lib.hid HCO
        clear hs ht hp hpt hsL hi hm hd h6 hpl
        clear hN
        clear hn
        unfold Un.val Un.cells at *
        generalize partsL id kind L u = PL at *
        generalize nuL id kind L = NU at *
        go_enter Tryz.func24, Tryz.ntmps24
        go_upto_region 1 with fail
        generalize hWW : (w.alloc (.cells #[.int .i64 id, .int .i64 mem, .int .i64 kind, .slice CA L.length cc] 31)).alloc (.cells #[.int .i64 u.ac, .int .i64 u.cl] 41) = W at *
        clear hWW
        have HQ : Hid (∀ V, Below W.heap.size W V → (V.cell? ⟨w.heap.size, 0, none⟩ = some (.int .i64 id) ∧ V.cell? ⟨w.heap.size, 1, none⟩ = some (.int .i64 mem) ∧ V.cell? ⟨w.heap.size, 2, none⟩ = some (.int .i64 kind) ∧ V.cell? ⟨w.heap.size, 3, none⟩ = some (.slice CA L.length cc)) ∧ (V.cell? ⟨w.heap.size + 1, 0, none⟩ = some (.int .i64 u.ac) ∧ V.cell? ⟨w.heap.size + 1, 1, none⟩ = some (.int .i64 u.cl))) := Lib.hid fun V h => ⟨⟨(K1.below h).2 0, (K1.below h).2 1, (K1.below h).2 2, (K1.below h).2 3⟩, ⟨(K2.below h).2 0, (K2.below h).2 1⟩⟩
        have HW0 : Hid (∀ V, Below W.heap.size W V → Below w.heap.size w V) := Lib.hid fun V h => hB0.trans (h.mono hB0.size)
        have hC := Below.refl W.heap.size W
        clear K1 K2
        obtain ⟨⟨p0, p1, p2, p3⟩, ⟨u0, u1⟩⟩ := HQ.out _ hC
        go_wp2_with fail
        refine (HIS.out _ (HW0.out _ hC)).mono ?_
        rintro e w1 ⟨rfl, hb⟩
        have hC := since_step hC hb
        clear hb
        clear p0 p1 p2 p3 u0 u1
        go_upto_region 3 with fail
        have HW1 : Hid (∀ V, Below w1.heap.size w1 V → Below W.heap.size W V) := Lib.hid fun V h => hC.trans (h.mono hC.size)
        go_wp2_with fail
        refine wp_region_held_drew (S := (fun V => Below w1.heap.size w1 V)) (by kernel_rfl) (by exact (Below.refl _ _).drew) (fun hHeld => ?_)
        refine tkI 0 15 rfl (by intro w hSw; obtain ⟨⟨p0, p1, p2, p3⟩, ⟨u0, u1⟩⟩ := HQ.out _ (HW1.out _ (hSw)); go_simp <;> with_reducible rfl) hHeld ?_; simp only [pqZ]
        refine tkI 2 17 rfl (by intro w hSw; obtain ⟨⟨p0, p1, p2, p3⟩, ⟨u0, u1⟩⟩ := HQ.out _ (HW1.out _ (hSw)); go_simp <;> with_reducible rfl) hHeld ?_; simp only [pqZ]
        refine rdZ 1 16 rfl (by kernel_rfl) (fun K hK => ?_)
        go_simp
        refine (HNU.out _ (HW0.out _ (HW1.out _ hHeld))).mono ?_
        rintro e x1 ⟨⟨A1, c1, rfl, o1⟩, hk1⟩
        have hKeep := since_step hHeld hk1
        have s1 := Sl.of_own o1
        clear o1
        go_wp2_with fail
        refine hK.out _ _ (by (try dsimp only); exact hKeep) (fun hHeld => ?_); clear hK K hKeep; try simp only [pqZ]
        refine rdZ 3 18 rfl (by kernel_rfl) (fun K hK => ?_)
        go_simp
        refine (HCO.out _ _ _ s1).mono ?_
        rintro e x2 ⟨rfl, hk1⟩
        have hKeep := since_step hHeld hk1
        go_wp2_with fail
        refine hK.out _ _ (by (try dsimp only); exact hKeep) (fun hHeld => ?_); clear hK K hKeep; try simp only [pqZ]
        refine tkJ 4 19 rfl (by intro w; go_simp <;> with_reducible rfl) hHeld ?_; simp only [pqZ]
        refine wpAnyH_done (by kernel_rfl) ?_ _
        have hC := hC.trans (hHeld.mono hC.size)
        clear hHeld HW1
        obtain ⟨⟨p0, p1, p2, p3⟩, ⟨u0, u1⟩⟩ := HQ.out _ hC
        go_wp2_with fail
        refine (HPP.out _ (HW0.out _ hC)).mono ?_
        rintro e w2 ⟨⟨A3, c3, rfl, o3⟩, hb⟩
        have hC := since_step hC hb
        have s3 := Sl.of_own o3
        clear hb o3
        clear p0 p1 p2 p3 u0 u1
        go_wp2_with fail
        refine (HNE.out _ _ _ (HW0.out _ hC) s3).mono ?_
        rintro e w3 ⟨⟨A4, c4, rfl, o4⟩, hb⟩
        have hC := since_step hC hb
        have s4 := Sl.of_own o4
        clear hb o4 s3
        simp only at s4 ⊢
        go_wp2_with fail
        go_ret2
        exact ⟨by rw [HR.out]; rfl, HW0.out _ hC⟩
    · have HR := Lib.hid (ofNR_none (is := is) hi hm)
      have hd : decide (u ∈ nuL id kind L) = false := decide_eq_false hm
      rw [hd] at HCO
      have HCO := Lib.hid HCO
      clear hs ht hp hpt hsL hi hm hd h6 hpl
      unfold Un.val Un.cells at *
      generalize nuL id kind L = NU at *
      go_enter Tryz.func24, Tryz.ntmps24
      go_upto_region 1 with fail
      generalize hWW : (w.alloc (.cells #[.int .i64 id, .int .i64 mem, .int .i64 kind, .slice CA L.length cc] 31)).alloc (.cells #[.int .i64 u.ac, .int .i64 u.cl] 41) = W at *
      clear hWW
      have HQ : Hid (∀ V, Below W.heap.size W V → (V.cell? ⟨w.heap.size, 0, none⟩ = some (.int .i64 id) ∧ V.cell? ⟨w.heap.size, 1, none⟩ = some (.int .i64 mem) ∧ V.cell? ⟨w.heap.size, 2, none⟩ = some (.int .i64 kind) ∧ V.cell? ⟨w.heap.size, 3, none⟩ = some (.slice CA L.length cc)) ∧ (V.cell? ⟨w.heap.size + 1, 0, none⟩ = some (.int .i64 u.ac) ∧ V.cell? ⟨w.heap.size + 1, 1, none⟩ = some (.int .i64 u.cl))) := Lib.hid fun V h => ⟨⟨(K1.below h).2 0, (K1.below h).2 1, (K1.below h).2 2, (K1.below h).2 3⟩, ⟨(K2.below h).2 0, (K2.below h).2 1⟩⟩
      have HW0 : Hid (∀ V, Below W.heap.size W V → Below w.heap.size w V) := Lib.hid fun V h => hB0.trans (h.mono hB0.size)
      have hC := Below.refl W.heap.size W
      clear K1 K2
      obtain ⟨⟨p0, p1, p2, p3⟩, ⟨u0, u1⟩⟩ := HQ.out _ hC
      go_wp2_with fail
      refine (HIS.out _ (HW0.out _ hC)).mono ?_
      rintro e w1 ⟨rfl, hb⟩
      have hC := since_step hC hb
      clear hb
      clear p0 p1 p2 p3 u0 u1
      go_upto_region 3 with fail
      have HW1 : Hid (∀ V, Below w1.heap.size w1 V → Below W.heap.size W V) := Lib.hid fun V h => hC.trans (h.mono hC.size)
      go_wp2_with fail
      refine wp_region_held_drew (S := (fun V => Below w1.heap.size w1 V)) (by kernel_rfl) (by exact (Below.refl _ _).drew) (fun hHeld => ?_)
      refine tkI 0 15 rfl (by intro w hSw; obtain ⟨⟨p0, p1, p2, p3⟩, ⟨u0, u1⟩⟩ := HQ.out _ (HW1.out _ (hSw)); go_simp <;> with_reducible rfl) hHeld ?_; simp only [pqZ]
      refine tkI 2 17 rfl (by intro w hSw; obtain ⟨⟨p0, p1, p2, p3⟩, ⟨u0, u1⟩⟩ := HQ.out _ (HW1.out _ (hSw)); go_simp <;> with_reducible rfl) hHeld ?_; simp only [pqZ]
      refine rdZ 1 16 rfl (by kernel_rfl) (fun K hK => ?_)
      go_simp
      refine (HNU.out _ (HW0.out _ (HW1.out _ hHeld))).mono ?_
      rintro e x1 ⟨⟨A1, c1, rfl, o1⟩, hk1⟩
      have hKeep := since_step hHeld hk1
      have s1 := Sl.of_own o1
      clear o1
      go_wp2_with fail
      refine hK.out _ _ (by (try dsimp only); exact hKeep) (fun hHeld => ?_); clear hK K hKeep; try simp only [pqZ]
      refine rdZ 3 18 rfl (by kernel_rfl) (fun K hK => ?_)
      go_simp
      refine (HCO.out _ _ _ s1).mono ?_
      rintro e x2 ⟨rfl, hk1⟩
      have hKeep := since_step hHeld hk1
      go_wp2_with fail
      refine hK.out _ _ (by (try dsimp only); exact hKeep) (fun hHeld => ?_); clear hK K hKeep; try simp only [pqZ]
      refine tkJ 4 19 rfl (by intro w; go_simp <;> with_reducible rfl) hHeld ?_; simp only [pqZ]
      refine wpAnyH_done (by kernel_rfl) ?_ _
      have hC := hC.trans (hHeld.mono hC.size)
      go_wp2_with fail
      go_ret2
      exact ⟨by rw [HR.out]; rfl, HW0.out _ hC⟩
theorem ofNR_in (is : List Ins) (cs : List Pc) (id kind : Int) (L : List Nt) (u : Un) : In64 (ofNR is cs id kind L u).1 := by
  unfold ofNR
  split
  · show In64 (0 : Int); decide
  · split
    · show In64 (0 : Int); decide
    · split
      · show In64 (0 : Int); decide
      · exact margin_in _ _
theorem ENn : Elem Tryz.prog 71 2 1 8 := Elem.mk' (z := .int .i64 0) (by kernel_rfl) (by kernel_rfl) (by decide) (by decide)
end
section
structure Lt where
  (ast : Int) (tag : Int) (qty : Int)
deriving DecidableEq
def Lt.cells (g : Lt) : List Value := [.int .i64 g.ast, .int .i64 g.tag, .int .i64 g.qty]
def Lt.val (g : Lt) : Value := .agg #[.int .i64 g.ast, .int .i64 g.tag, .int .i64 g.qty]
def Lt.zero : Lt := ⟨0, 0, 0⟩
theorem Lt.len (g : Lt) : g.cells.length = 3 := rfl
theorem Lt.one (g : Lt) : ∀ u ∈ g.cells, u.oneCell' = true := by
  intro u hu
  simp only [Lt.cells, List.mem_cons, List.not_mem_nil, or_false] at hu
  rcases hu with h | h | h <;> subst h <;> rfl
def Lt.at (g : Lt) (w : World) (b o : Nat) : Prop :=
  w.cell? ⟨b, o, none⟩ = some (.int .i64 g.ast) ∧ w.cell? ⟨b, o + 1, none⟩ = some (.int .i64 g.tag) ∧ w.cell? ⟨b, o + 2, none⟩ = some (.int .i64 g.qty)
theorem Lt.at_of {w : World} {b o : Nat} {g : Lt} (h : ∀ j u, g.cells[j]? = some u → w.cell? ⟨b, o + j, none⟩ = some u) : g.at w b o :=
  ⟨h 0 _ rfl, h 1 _ rfl, h 2 _ rfl⟩
theorem Lt.at_keep {w w' : World} {b o : Nat} {g : Lt} (h : g.at w b o) (k : ∀ i, w'.cell? ⟨b, i, none⟩ = w.cell? ⟨b, i, none⟩) : g.at w' b o := by
  unfold Lt.at at *
  simp only [k]
  exact h
theorem Sl.lt {w : World} {A : Option Addr} {l : List Lt} (h : Sl w A (rc Lt.cells l)) {k : Nat} (hk : k < l.length) : ∃ b o, A = some ⟨b, o, none⟩ ∧ b < w.heap.size ∧ l[k].at w b (o + k * 3) := by
  obtain ⟨b, o, hA, hb, hc⟩ := Sl.elem (m := 3) Lt.len (by decide) h hk
  exact ⟨b, o, hA, hb, Lt.at_of hc⟩
theorem ELt : Elem Tryz.prog 65 33 3 24 := Elem.mk' (z := .agg #[.int .i64 0, .int .i64 0, .int .i64 0]) (by kernel_rfl) (by kernel_rfl) (by decide) (by decide)
def Lt.Tells (F : Nat) (caps : Array Value) (p : Lt → Bool) (B : Nat) (w : World) : Prop :=
  ∀ (g : Lt) (W : World), Below B w W → Calls Tryz.prog F (#[g.val] ++ caps) W fun e w' => e = .returned (.bool (p g)) ∧ Below W.heap.size W w'
theorem Lt.Tells.below {F : Nat} {caps : Array Value} {p : Lt → Bool} {B : Nat} {w w1 : World} (h : Lt.Tells F caps p B w) (hb : Below B w w1) {C : Nat} (hC : B ≤ C) : Lt.Tells F caps p C w1 :=
  fun g W hW => h g W (hb.trans (hW.mono hC))
theorem clone_lt (A : Option Addr) (cap : Nat) (l : List Lt) (w : World) (hl : l.length ≤ 1000000) (hs : Sl w A (rc Lt.cells l)) :
    Calls Tryz.prog 62 #[.slice A l.length cap] w fun e w' => (∃ A' c', e = .returned (.slice A' l.length c') ∧ w'.ownsRow w.heap.size 33 3 (.slice A' l.length c') l.length (rc Lt.cells l)) ∧ Below w.heap.size w w' := by
  cases A with
  | none =>
    have hn : l = [] := by
      cases l with
      | nil => rfl
      | cons g m => obtain ⟨b, o, e, _⟩ := hs.lt (k := 0) (by simp); cases e
    subst hn
    have hnil := fun w : World => Go.Lib.run_eql_slice_nil (P := Tryz.prog) w 65 33 none 0 cap 0 0 ELt.und
    go_enter Tryz.func62, Tryz.ntmps62
    go_wp2_with fail
    go_ret
    exact ⟨⟨none, 0, rfl, own_nil _ _ _⟩, Below.refl _ _⟩
  | some ad =>
    have hnil := fun w : World => Go.Lib.run_eql_slice_nil (P := Tryz.prog) w 65 33 (some ad) l.length cap 0 0 ELt.und
    go_enter Tryz.func62, Tryz.ntmps62
    go_wp2_with (first
      | (at_builtin; refine wpList_app rfl (.tmp 5) (.tmp 6) rfl ELt rfl rfl (World.ownsRow_made (w := w) #[] 0 (Nat.le_refl _) (Nat.zero_le _) rfl) (rc_length Lt.len l) (hs.alloc _) (rc_one Lt.one l) (by unfold maxLen; omega) (by omega) (by simp) ?_; intro A2 c2 w2 hown2 hg2 hb2; simp only [Nat.zero_add, List.nil_append] at hown2)
      | fail)
    refine bodyPost_ret (results_tmp rfl _ _ _) rfl ⟨⟨A2, c2, by simp, by simpa using hown2⟩, ?_⟩
    exact Below.trans ((Below.refl _ _).alloc (Nat.le_refl _) _) hb2
end
end Go.Proofs.YtmjndpkfhdoljaaGreat
