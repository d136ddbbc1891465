import Derived.Test.YtahdmomadbbhoaaGreatDg34
section
namespace Go.Proofs.YtahdmomadbbhoaaGreat
open Go.ChangeShapes Go.WideShapes Go.ChangeAt Go.RowKit
set_option linter.unusedVariables false
set_option linter.unusedSimpArgs false

def goH (x : Pc) : List Pc → Bool → List Pc
  | [], d => if d then [] else [x]
  | y :: r, d => (if !d && !ahH y x then [x] else []) ++ (if unH x.ac x.cl y then [] else [y]) ++ goH x r (d || !ahH y x)
theorem goH_step (x : Pc) {cs : List Pc} {k : Nat} (hk : k < cs.length) (d : Bool) : goH x (cs.drop k) d = (if !d && !ahH cs[k] x then [x] else []) ++ (if unH x.ac x.cl cs[k] then [] else [cs[k]]) ++ goH x (cs.drop (k + 1)) (d || !ahH cs[k] x) := by
  rw [List.drop_eq_getElem_cons hk]; rfl
theorem goH_true (x : Pc) : ∀ cs : List Pc, goH x cs true = cs.filter fun g => !unH x.ac x.cl g
  | [] => rfl
  | y :: r => by
    rw [goH, Bool.true_or, goH_true x r, List.filter_cons]
    cases h : unH x.ac x.cl y <;> simp [h]
theorem none_afterP {b : Pc} {r : List Pc} (h : SoH (b :: r)) {a c : Int} (hu : unH a c b = true) : ∀ z ∈ r, unH a c z = false := by
  intro z hz
  have := List.rel_of_pairwise_cons h hz
  rw [unH_no]; rw [unH_iff] at hu; rw [ahH_iff] at this; omega
theorem goH_false (x : Pc) : ∀ {cs : List Pc}, SoH cs → goH x cs false = putR ahH cs x
  | [], _ => rfl
  | y :: r, h => by
    have ih := goH_false x h.of_cons
    rw [goH, putR]
    cases ha : ahH y x with
    | true =>
      have hu : unH x.ac x.cl y = false := by rw [unH_no]; rw [ahH_iff] at ha; omega
      simp [hu, ih]
    | false =>
      have hlow : ¬ (y.ac < x.ac ∨ y.ac = x.ac ∧ y.cl < x.cl) := by rw [← ahH_iff, ha]; simp
      cases hb : ahH x y with
      | true =>
        have hb' := (ahH_iff _ _).1 hb
        have hall : ∀ z ∈ y :: r, unH x.ac x.cl z = false := by
          intro z hz
          rcases List.mem_cons.1 hz with rfl | hz
          · rw [unH_no]; omega
          · have := (ahH_iff _ _).1 (List.rel_of_pairwise_cons h hz)
            rw [unH_no]; omega
        rw [show unH x.ac x.cl y = false from hall y (by simp)]
        simp only [Bool.not_false, Bool.and_self, Bool.or_true, if_true, if_false, Bool.false_eq_true]
        rw [goH_true, List.filter_eq_self.2 (fun z hz => by simp [hall z (by simp [hz])])]
        simp
      | false =>
        have hb' : ¬ (x.ac < y.ac ∨ x.ac = y.ac ∧ x.cl < y.cl) := by rw [← ahH_iff, hb]; simp
        have hu : unH x.ac x.cl y = true := by rw [unH_iff]; omega
        rw [hu]
        simp only [Bool.not_false, Bool.and_self, Bool.or_true, if_true, if_false, Bool.false_eq_true]
        rw [goH_true, List.filter_eq_self.2 (fun z hz => by simp [none_afterP h hu z hz])]
        simp
theorem goH_with {cs : List Pc} (h : SoH cs) (a c : Int) (L : List Lg) : goH ⟨a, c, L⟩ cs (decide ((L.length : Int) = 0)) = withH cs a c L := by
  unfold withH
  cases L with
  | nil => rw [if_pos rfl]; exact goH_true _ _
  | cons y r =>
    rw [if_neg (by simp), show decide ((((y :: r).length : Nat) : Int) = 0) = false from by simp; omega]
    exact goH_false _ h
set_option maxHeartbeats 8000000 in
set_option maxRecDepth 100000 in
theorem rshift_any (A : Option Addr) (cap : Nat) (l : List Po) (cs : List Pc) (a c : Int) (LA : Option Addr) (LC : Nat) (M : List Lg) (w : World) (hl : l.length ≤ 900000) (hcl : ∀ g ∈ cs, g.L.length ≤ 400000) (h6 : ∀ g ∈ cs, ∀ y ∈ g.L, In64 y.qty) (hMl : M.length ≤ 400000) (hM6 : ∀ y ∈ M, In64 y.qty) (hs : Sl w A (rc Po.cells l)) (ht : PoTab w l cs) (hM : Sl w LA (rc Lg.cells M)) :
    Calls Tryz.prog 69 #[.slice A l.length cap, .agg #[.int .i64 a, .int .i64 c], .slice LA M.length LC] w fun e w' => HRes w' e (chgHR (fun m => addL [m, M]) cs a c) ∧ Below w.heap.size w w' := by
  have hB0 := since_alloc (Below.refl _ w) (.cells #[.int .i64 a, .int .i64 c] 28)
  have hK := Bk.new w #[.int .i64 a, .int .i64 c] 28
  have hcl9 : ∀ g ∈ cs, g.L.length ≤ 900000 := fun g hg => Nat.le_trans (hcl g hg) (by omega)
  have HLL : Hid (cs.length ≤ 1000000) := Lib.hid (by have := ht.1; omega)
  have HLC := Lib.hid ht.1
  have HIS := Lib.hid (rhis_any A cap l cs _ hl hcl9 (hs.alloc (.cells #[.int .i64 a, .int .i64 c] 28)) (ht.below hB0))
  have HSL : Hid (∀ V, Below w.heap.size w V → Sl V A (rc Po.cells l)) := Lib.hid fun V hV => hs.below hV
  have HTB : Hid (∀ V, Below w.heap.size w V → PoTab V l cs) := Lib.hid fun V hV => ht.below hV
  have HSM : Hid (∀ V, Below w.heap.size w V → Sl V LA (rc Lg.cells M)) := Lib.hid fun V hV => hM.below hV
  have HLO := Lib.hid (fun V h1 h2 => rhlots_any A cap l cs a c V hl h1 h2)
  have hlen := lotsH_len hcl a c
  have hl6 := lots_in6 h6 a c
  have HAD := Lib.hid (fun A0 A1 c1 V h h1 h2 => radd_2 (lotsH cs a c) M hlen hMl hl6 hM6 A0 A1 LA c1 LC V h h1 h2)
  obtain ⟨rn, RL, hR⟩ : ∃ rn RL, addL [lotsH cs a c, M] = (rn, RL) := ⟨_, _, rfl⟩
  rw [hR] at HAD
  unfold GRes at HAD
  simp only at HAD
  have hso0 : isH cs = true → SoH cs := fun h => isH_sorted h
  have HTB0 := HTB
  clear hs ht hM
  cases hi : isH cs with
  | false =>
    have HR := Lib.hid (chgHR_form (how := fun m => addL [m, M]) (a := a) (c := c) hi)
    rw [hi] at HIS
    clear hi hR hso0
    go_enter Tryz.func69, Tryz.ntmps69
    go_wp2_with fail
    refine HIS.out.mono ?_
    rintro e w1 ⟨rfl, hb⟩
    have hB1 := since_step hB0 hb
    have hK := hK.below hb
    clear hb
    go_wp2_with fail
    go_ret2
    rw [HR.out]
    exact ⟨HRes.nil _ _, hB1⟩
  | true =>
    rw [hi] at HIS
    by_cases hn : rn = 0
    rotate_left
    · have HR := Lib.hid (chgHR_err (how := fun m => addL [m, M]) hi hR hn)
      have hnb : (rn != 0) = true := by simpa using hn
      have hnb2 : (rn == 0) = false := by simpa using hn
      generalize lotsH cs a c = L0 at *
      clear hi hR hn hso0
      go_enter Tryz.func69, Tryz.ntmps69
      go_wp2_with fail
      refine HIS.out.mono ?_
      rintro e w1 ⟨rfl, hb⟩
      have hB1 := since_step hB0 hb
      have hK := hK.below hb
      clear hb
      have ck := hK.2; have k0 := ck 0; have k1 := ck 1; simp at k0 k1; clear ck
      go_wp2_with fail
      refine (HLO.out _ (HSL.out _ hB1) (HTB.out _ hB1)).mono ?_
      rintro e w2 ⟨⟨A1, c1, rfl, h1⟩, hb⟩
      have hB2 := since_step hB1 hb
      have hK := hK.below hb
      clear hb k0 k1
      go_wp2_with fail
      refine (HAD.out _ A1 c1 _ (Sl.new_ w2 (rc RowS.cells [(⟨A1, c1, L0⟩ : RowS Lg), ⟨LA, LC, M⟩]) 59) (h1.alloc _) ((HSM.out _ hB2).alloc _)).mono ?_
      rintro e w3 ⟨⟨A2, c2, rfl, o2⟩, hb⟩
      have hA := (Below.refl w2.heap.size w2).alloc (Nat.le_refl _) (.cells #[.slice A1 L0.length c1, .slice LA M.length LC] 59)
      have hB3 := since_step hB2 (since_step hA hb)
      have hK := (hK.below hA).below hb
      have h2 := Sl.of_own o2
      clear hb hA o2 h1
      go_wp2_with fail
      go_ret2
      rw [HR.out]
      exact ⟨HRes.nil _ _, hB3⟩
    · subst hn
      have hR2 := chgHR_ok (how := fun m => addL [m, M]) hi hR
      have HGW := Lib.hid (goH_with (hso0 hi) a c RL)
      generalize withH cs a c RL = R at *
      have HR := Lib.hid hR2
      generalize lotsH cs a c = L0 at *
      clear hi hR hso0 hR2
      go_enter Tryz.func69, Tryz.ntmps69
      go_wp2_with fail
      refine HIS.out.mono ?_
      rintro e w1 ⟨rfl, hb⟩
      have hB1 := since_step hB0 hb
      have hK := hK.below hb
      clear hb
      have ck := hK.2; have k0 := ck 0; have k1 := ck 1; simp at k0 k1; clear ck
      go_wp2_with fail
      refine (HLO.out _ (HSL.out _ hB1) (HTB.out _ hB1)).mono ?_
      rintro e w2 ⟨⟨A1, c1, rfl, h1⟩, hb⟩
      have hB2 := since_step hB1 hb
      have hK := hK.below hb
      clear hb k0 k1
      go_wp2_with fail
      refine (HAD.out _ A1 c1 _ (Sl.new_ w2 (rc RowS.cells [(⟨A1, c1, L0⟩ : RowS Lg), ⟨LA, LC, M⟩]) 59) (h1.alloc _) ((HSM.out _ hB2).alloc _)).mono ?_
      rintro e w3 ⟨⟨A2, c2, rfl, o2⟩, hb⟩
      have hA := (Below.refl w2.heap.size w2).alloc (Nat.le_refl _) (.cells #[.slice A1 L0.length c1, .slice LA M.length LC] 59)
      have hB3 := since_step hB2 (since_step hA hb)
      have hK := (hK.below hA).below hb
      have h2 := Sl.of_own o2
      clear hb hA o2 h1
      have hWs := hB3.size
      have HS2 := Lib.hid h2
      have HSW : Hid (∀ V, Below w3.heap.size w3 V → Sl V A (rc Po.cells l) ∧ PoTab V l cs) := Lib.hid fun V hV => ⟨HSL.out _ (since_step hB3 hV), HTB.out _ (since_step hB3 hV)⟩
      have HKW : Hid (∀ V, Below w3.heap.size w3 V → Bk V w.heap.size #[.int .i64 a, .int .i64 c]) := Lib.hid fun V hV => hK.below hV
      have hdz : (((RL.length : Nat) : Int) == 0) = decide ((RL.length : Int) = 0) := rfl
      obtain ⟨d0, hd0⟩ : ∃ d0 : Bool, decide ((RL.length : Int) = 0) = d0 := ⟨_, rfl⟩
      rw [hd0] at HGW hdz
      clear hK h2 HIS HSL HTB HSM HTB0 HLO HAD hB0 hB1 hB2 hd0
      generalize w3 = W at *
      go_wp2_with fail
      go_loopw [10, 11, 12] (fun out dn i wr => ∃ (k : Nat) (d : Bool) (lO : List Po) (O : List Pc) (A' : Option Addr) (c' : Nat), k ≤ l.length ∧ i = .int .i64 k ∧ dn = .bool d ∧ out = .slice A' lO.length c' ∧ lO.length ≤ k + d.toNat ∧ O ++ goH ⟨a, c, RL⟩ (cs.drop k) d = R ∧ wr.ownsRow W.heap.size 97 3 (.slice A' lO.length c') lO.length (rc Po.cells lO) ∧ PoTab W lO O ∧ Below W.heap.size W wr) (fun _ _ i _ => l.length - (intOf i).toNat)
      case atStart => exact ⟨0, d0, [], [], none, 0, by omega, rfl, rfl, rfl, by simp, HGW.out, own_nil _ _ _, PoTab.nil _, Below.refl _ _⟩
      case round =>
        obtain ⟨k, d, lO, O, A', c', hk, rfl, rfl, rfl, hlO, hI, hown, htO, hB⟩ := hrel
        by_cases hlt : k < l.length
        · have hlc : k < cs.length := HLC.out ▸ hlt
          obtain ⟨b, o, rfl, hbw, hg⟩ := (HSW.out _ (Below.refl _ _)).1.po hlt
          have hlk : (k : Int) < (l.length : Int) := by omega
          have hge : (0 : Int) ≤ (k : Int) := by omega
          have HG : Hid (∀ V, Below W.heap.size W V → l[k].at V b (o + k * 3)) := Lib.hid fun V hV => Po.at_keep hg fun i => hV.cell (p := ⟨b, i, none⟩) hbw
          have hTk := (HSW.out _ (Below.refl _ _)).2.2 k hlt hlc
          rw [goH_step _ hlc] at hI
          have HI := Lib.hid hI
          clear hI hg
          generalize l[k] = v at *
          generalize cs[k] = dd at *
          obtain ⟨va, vc, vt, vL, vC⟩ := v
          obtain ⟨da, dc, dL⟩ := dd
          obtain ⟨i0, i1, i2, i3⟩ := hTk
          simp only at i0 i1 i2 i3
          subst i0; subst i1; subst i2
          unfold Po.at at HG
          simp only at HG
          have HSV := Lib.hid i3
          clear i3
          cases d with
          | true =>
            have hlO : lO.length ≤ k + 1 := hlO
            have HL0 : Hid ((true : Bool) = true) := Lib.hid rfl
            by_cases h1 : va = a
            · subst h1
              by_cases h2 : vc = c
              · subst h2
                have HU0 : Hid (unH va vc ⟨va, vc, dL⟩ = true) := Lib.hid (by simp [unH])
                go_wp2_with fail
                refine wp_region_held_drew (S := (fun V => Below W.heap.size W V ∧ V.ownsRow W.heap.size 97 3 (.slice A' lO.length c') lO.length (rc Po.cells lO))) (by kernel_rfl) (by exact ⟨hB.drew, own_below hown ((Below.refl _ _).drew)⟩) (fun hHeld => ?_)
                refine tkZ (i := 0) (oi := ⟨some 37, _, _, _, _, _⟩) (v := ?_) rfl (by kernel_rfl) (fun _ _ _ h => h) (Or.inl ⟨by rfl, ?_⟩) hHeld ?_
                rotate_left
                · (intro w hSw; clear hSw; go_simp <;> with_reducible rfl)
                try simp only [pqZ]
                refine tkZ (i := 1) (oi := ⟨some 38, _, _, _, _, _⟩) (v := ?_) rfl (by kernel_rfl) (fun _ _ _ h => h) (Or.inl ⟨by rfl, ?_⟩) hHeld ?_
                rotate_left
                · (intro w hSw; clear hSw; go_simp <;> with_reducible rfl)
                try simp only [pqZ]
                refine tkZ (i := 2) (oi := ⟨some 39, _, _, _, _, _⟩) (v := ?_) rfl (by kernel_rfl) (fun _ _ _ h => h) (Or.inl ⟨by rfl, ?_⟩) hHeld ?_
                rotate_left
                · (intro w hSw; clear hSw; go_simp <;> with_reducible rfl)
                try simp only [pqZ]
                refine tkZ (i := 3) (oi := ⟨some 40, _, _, _, _, _⟩) (v := undef) rfl (by kernel_rfl) (fun _ _ _ h => h) (Or.inr ⟨by rfl, rfl⟩) hHeld ?_
                try simp only [pqZ]
                refine tkZ (i := 4) (oi := ⟨some 41, _, _, _, _, _⟩) (v := undef) rfl (by kernel_rfl) (fun _ _ _ h => h) (Or.inr ⟨by rfl, rfl⟩) hHeld ?_
                try simp only [pqZ]
                refine tkZ (i := 5) (oi := ⟨some 42, _, _, _, _, _⟩) (v := undef) rfl (by kernel_rfl) (fun _ _ _ h => h) (Or.inr ⟨by rfl, rfl⟩) hHeld ?_
                try simp only [pqZ]
                refine tkZ (i := 6) (oi := ⟨some 43, _, _, _, _, _⟩) (v := undef) rfl (by kernel_rfl) (fun _ _ _ h => h) (Or.inr ⟨by rfl, rfl⟩) hHeld ?_
                try simp only [pqZ]
                refine tkZ (i := 7) (oi := ⟨some 44, _, _, _, _, _⟩) (v := undef) rfl (by kernel_rfl) (fun _ _ _ h => h) (Or.inr ⟨by rfl, rfl⟩) hHeld ?_
                try simp only [pqZ]
                refine tkZ (i := 8) (oi := ⟨some 45, _, _, _, _, _⟩) (v := undef) rfl (by kernel_rfl) (fun _ _ _ h => h) (Or.inr ⟨by rfl, rfl⟩) hHeld ?_
                try simp only [pqZ]
                refine tkZ (i := 9) (oi := ⟨some 46, _, _, _, _, _⟩) (v := undef) rfl (by kernel_rfl) (fun _ _ _ h => h) (Or.inr ⟨by rfl, rfl⟩) hHeld ?_
                try simp only [pqZ]
                refine tkZ (i := 10) (oi := ⟨some 47, _, _, _, _, _⟩) (v := undef) rfl (by kernel_rfl) (fun _ _ _ h => h) (Or.inr ⟨by rfl, rfl⟩) hHeld ?_
                try simp only [pqZ]
                refine tkZ (i := 11) (oi := ⟨some 48, _, _, _, _, _⟩) (v := ?_) rfl (by kernel_rfl) (fun _ _ _ h => h) (Or.inl ⟨by rfl, ?_⟩) hHeld ?_
                rotate_left
                · (intro w hSw; clear hSw; go_simp <;> with_reducible rfl)
                try simp only [pqZ]
                refine wpAnyH_done (by kernel_rfl) ?_ _
                obtain ⟨hB2, ho1⟩ := hHeld
                have hsz := hB2.size
                go_upto_region 14 with fail
                have hB8 := hB2
                have ho8 := ho1
                refine wp_region_held_drew (S := (fun V => Below W.heap.size W V ∧ V.ownsRow W.heap.size 97 3 (.slice A' lO.length c') lO.length (rc Po.cells lO))) (by kernel_rfl) (by exact ⟨hB8.drew, own_below ho8 ((Below.refl _ _).drew)⟩) (fun hHeld => ?_)
                refine tkZ (i := 0) (oi := ⟨some 55, _, _, _, _, _⟩) (v := ?_) rfl (by kernel_rfl) (fun _ _ _ h => h) (Or.inl ⟨by rfl, ?_⟩) hHeld ?_
                rotate_left
                · (intro w hSw; clear hSw; go_simp <;> with_reducible rfl)
                try simp only [pqZ]
                refine tkZ (i := 1) (oi := ⟨some 56, _, _, _, _, _⟩) (v := ?_) rfl (by kernel_rfl) (fun _ _ _ h => h) (Or.inl ⟨by rfl, ?_⟩) hHeld ?_
                rotate_left
                · (intro w hSw; clear hSw; go_simp <;> with_reducible rfl)
                try simp only [pqZ]
                refine tkZ (i := 2) (oi := ⟨some 57, _, _, _, _, _⟩) (v := ?_) rfl (by kernel_rfl) (fun _ _ _ h => h) (Or.inl ⟨by rfl, ?_⟩) hHeld ?_
                rotate_left
                · (intro w hSw; clear hSw; go_simp <;> with_reducible rfl)
                try simp only [pqZ]
                refine tkZ (i := 3) (oi := ⟨some 58, _, _, _, _, _⟩) (v := ?_) rfl (by kernel_rfl) (fun _ _ _ h => h) (Or.inl ⟨by rfl, ?_⟩) hHeld ?_
                rotate_left
                · (intro w hSw; clear hSw; go_simp <;> with_reducible rfl)
                try simp only [pqZ]
                refine tkZ (i := 4) (oi := ⟨some 59, _, _, _, _, _⟩) (v := ?_) rfl (by kernel_rfl) (fun _ _ _ h => h) (Or.inl ⟨by rfl, ?_⟩) hHeld ?_
                rotate_left
                · (intro w hSw; obtain ⟨g0, g1, g2⟩ := HG.out _ (hSw).1; have ck := (HKW.out _ (hSw).1).2; have k0 := ck 0; have k1 := ck 1; simp at k0 k1; clear ck; go_simp <;> with_reducible rfl)
                try simp only [pqZ]
                refine tkZ (i := 5) (oi := ⟨some 60, _, _, _, _, _⟩) (v := ?_) rfl (by kernel_rfl) (fun _ _ _ h => h) (Or.inl ⟨by rfl, ?_⟩) hHeld ?_
                rotate_left
                · (intro w hSw; obtain ⟨g0, g1, g2⟩ := HG.out _ (hSw).1; have ck := (HKW.out _ (hSw).1).2; have k0 := ck 0; have k1 := ck 1; simp at k0 k1; clear ck; go_simp <;> with_reducible rfl)
                try simp only [pqZ]
                refine tkZ (i := 6) (oi := ⟨some 61, _, _, _, _, _⟩) (v := ?_) rfl (by kernel_rfl) (fun _ _ _ h => h) (Or.inl ⟨by rfl, ?_⟩) hHeld ?_
                rotate_left
                · (intro w hSw; clear hSw; go_simp <;> with_reducible rfl)
                try simp only [pqZ]
                refine wpAnyH_done (by kernel_rfl) ?_ _
                obtain ⟨hB9, ho9⟩ := hHeld
                have hsz9 := hB9.size
                obtain ⟨g0, g1, g2⟩ := HG.out _ hB9
                go_wp2_with fail
                have hBz := hB9
                have hoz := ho9
                go_roundw
                case rel =>
                  refine ⟨k + 1, true, lO, O, A', c', by omega, by go_num, rfl, by first | rfl | (simp; done), by simp only [List.length_append, List.length_cons, List.length_nil, Bool.toNat_true, Bool.toNat_false]; omega, ?_, ?_, htO, hBz⟩
                  · have h := HI.out
                    simpa [HL0.out, HU0.out, List.append_assoc] using h
                  · simpa [rc, Po.cells, List.append_assoc] using hoz
                case measure => simp [intOf]; omega
              · have h2b : (vc == c) = false := by simpa using h2
                have HU0 : Hid (unH va c ⟨va, vc, dL⟩ = false) := Lib.hid (by simp [unH, h2])
                clear h2
                go_wp2_with fail
                refine wp_region_held_drew (S := (fun V => Below W.heap.size W V ∧ V.ownsRow W.heap.size 97 3 (.slice A' lO.length c') lO.length (rc Po.cells lO))) (by kernel_rfl) (by exact ⟨hB.drew, own_below hown ((Below.refl _ _).drew)⟩) (fun hHeld => ?_)
                refine tkZ (i := 0) (oi := ⟨some 37, _, _, _, _, _⟩) (v := ?_) rfl (by kernel_rfl) (fun _ _ _ h => h) (Or.inl ⟨by rfl, ?_⟩) hHeld ?_
                rotate_left
                · (intro w hSw; clear hSw; go_simp <;> with_reducible rfl)
                try simp only [pqZ]
                refine tkZ (i := 1) (oi := ⟨some 38, _, _, _, _, _⟩) (v := ?_) rfl (by kernel_rfl) (fun _ _ _ h => h) (Or.inl ⟨by rfl, ?_⟩) hHeld ?_
                rotate_left
                · (intro w hSw; clear hSw; go_simp <;> with_reducible rfl)
                try simp only [pqZ]
                refine tkZ (i := 2) (oi := ⟨some 39, _, _, _, _, _⟩) (v := ?_) rfl (by kernel_rfl) (fun _ _ _ h => h) (Or.inl ⟨by rfl, ?_⟩) hHeld ?_
                rotate_left
                · (intro w hSw; clear hSw; go_simp <;> with_reducible rfl)
                try simp only [pqZ]
                refine tkZ (i := 3) (oi := ⟨some 40, _, _, _, _, _⟩) (v := undef) rfl (by kernel_rfl) (fun _ _ _ h => h) (Or.inr ⟨by rfl, rfl⟩) hHeld ?_
                try simp only [pqZ]
                refine tkZ (i := 4) (oi := ⟨some 41, _, _, _, _, _⟩) (v := undef) rfl (by kernel_rfl) (fun _ _ _ h => h) (Or.inr ⟨by rfl, rfl⟩) hHeld ?_
                try simp only [pqZ]
                refine tkZ (i := 5) (oi := ⟨some 42, _, _, _, _, _⟩) (v := undef) rfl (by kernel_rfl) (fun _ _ _ h => h) (Or.inr ⟨by rfl, rfl⟩) hHeld ?_
                try simp only [pqZ]
                refine tkZ (i := 6) (oi := ⟨some 43, _, _, _, _, _⟩) (v := undef) rfl (by kernel_rfl) (fun _ _ _ h => h) (Or.inr ⟨by rfl, rfl⟩) hHeld ?_
                try simp only [pqZ]
                refine tkZ (i := 7) (oi := ⟨some 44, _, _, _, _, _⟩) (v := undef) rfl (by kernel_rfl) (fun _ _ _ h => h) (Or.inr ⟨by rfl, rfl⟩) hHeld ?_
                try simp only [pqZ]
                refine tkZ (i := 8) (oi := ⟨some 45, _, _, _, _, _⟩) (v := undef) rfl (by kernel_rfl) (fun _ _ _ h => h) (Or.inr ⟨by rfl, rfl⟩) hHeld ?_
                try simp only [pqZ]
                refine tkZ (i := 9) (oi := ⟨some 46, _, _, _, _, _⟩) (v := undef) rfl (by kernel_rfl) (fun _ _ _ h => h) (Or.inr ⟨by rfl, rfl⟩) hHeld ?_
                try simp only [pqZ]
                refine tkZ (i := 10) (oi := ⟨some 47, _, _, _, _, _⟩) (v := undef) rfl (by kernel_rfl) (fun _ _ _ h => h) (Or.inr ⟨by rfl, rfl⟩) hHeld ?_
                try simp only [pqZ]
                refine tkZ (i := 11) (oi := ⟨some 48, _, _, _, _, _⟩) (v := ?_) rfl (by kernel_rfl) (fun _ _ _ h => h) (Or.inl ⟨by rfl, ?_⟩) hHeld ?_
                rotate_left
                · (intro w hSw; clear hSw; go_simp <;> with_reducible rfl)
                try simp only [pqZ]
                refine wpAnyH_done (by kernel_rfl) ?_ _
                obtain ⟨hB2, ho1⟩ := hHeld
                have hsz := hB2.size
                go_upto_region 14 with fail
                have hB8 := hB2
                have ho8 := ho1
                refine wp_region_held_drew (S := (fun V => Below W.heap.size W V ∧ V.ownsRow W.heap.size 97 3 (.slice A' lO.length c') lO.length (rc Po.cells lO))) (by kernel_rfl) (by exact ⟨hB8.drew, own_below ho8 ((Below.refl _ _).drew)⟩) (fun hHeld => ?_)
                refine tkZ (i := 0) (oi := ⟨some 55, _, _, _, _, _⟩) (v := ?_) rfl (by kernel_rfl) (fun _ _ _ h => h) (Or.inl ⟨by rfl, ?_⟩) hHeld ?_
                rotate_left
                · (intro w hSw; clear hSw; go_simp <;> with_reducible rfl)
                try simp only [pqZ]
                refine tkZ (i := 1) (oi := ⟨some 56, _, _, _, _, _⟩) (v := ?_) rfl (by kernel_rfl) (fun _ _ _ h => h) (Or.inl ⟨by rfl, ?_⟩) hHeld ?_
                rotate_left
                · (intro w hSw; clear hSw; go_simp <;> with_reducible rfl)
                try simp only [pqZ]
                refine tkZ (i := 2) (oi := ⟨some 57, _, _, _, _, _⟩) (v := ?_) rfl (by kernel_rfl) (fun _ _ _ h => h) (Or.inl ⟨by rfl, ?_⟩) hHeld ?_
                rotate_left
                · (intro w hSw; clear hSw; go_simp <;> with_reducible rfl)
                try simp only [pqZ]
                refine tkZ (i := 3) (oi := ⟨some 58, _, _, _, _, _⟩) (v := ?_) rfl (by kernel_rfl) (fun _ _ _ h => h) (Or.inl ⟨by rfl, ?_⟩) hHeld ?_
                rotate_left
                · (intro w hSw; clear hSw; go_simp <;> with_reducible rfl)
                try simp only [pqZ]
                refine tkZ (i := 4) (oi := ⟨some 59, _, _, _, _, _⟩) (v := ?_) rfl (by kernel_rfl) (fun _ _ _ h => h) (Or.inl ⟨by rfl, ?_⟩) hHeld ?_
                rotate_left
                · (intro w hSw; obtain ⟨g0, g1, g2⟩ := HG.out _ (hSw).1; have ck := (HKW.out _ (hSw).1).2; have k0 := ck 0; have k1 := ck 1; simp at k0 k1; clear ck; go_simp <;> with_reducible rfl)
                try simp only [pqZ]
                refine tkZ (i := 5) (oi := ⟨some 60, _, _, _, _, _⟩) (v := ?_) rfl (by kernel_rfl) (fun _ _ _ h => h) (Or.inl ⟨by rfl, ?_⟩) hHeld ?_
                rotate_left
                · (intro w hSw; obtain ⟨g0, g1, g2⟩ := HG.out _ (hSw).1; have ck := (HKW.out _ (hSw).1).2; have k0 := ck 0; have k1 := ck 1; simp at k0 k1; clear ck; go_simp <;> with_reducible rfl)
                try simp only [pqZ]
                refine tkZ (i := 6) (oi := ⟨some 61, _, _, _, _, _⟩) (v := ?_) rfl (by kernel_rfl) (fun _ _ _ h => h) (Or.inl ⟨by rfl, ?_⟩) hHeld ?_
                rotate_left
                · (intro w hSw; clear hSw; go_simp <;> with_reducible rfl)
                try simp only [pqZ]
                refine wpAnyH_done (by kernel_rfl) ?_ _
                obtain ⟨hB9, ho9⟩ := hHeld
                have hsz9 := hB9.size
                obtain ⟨g0, g1, g2⟩ := HG.out _ hB9
                go_wp2_with (first
                  | (at_builtin; refine wpList_app rfl (.tmp 62) (.tmp 67) rfl EPo rfl rfl (ho9.alloc _) (m := 1) (news := [.int .i64 va, .int .i64 vc, .slice vt dL.length vC]) rfl (Sl.new_ _ _ _) (Po.one ⟨va, vc, vt, dL.length, vC⟩) (by unfold maxLen; omega) (by omega) (by have hz := hsz9; (try simp only [World.size_alloc, World.size_drew] at hz ⊢); omega) ?_; intro A6 c6 w6 hown6 hg6 hb6)
                  | fail)
                have hBz := (since_alloc hB9 _).trans hb6
                have hoz := hown6
                go_roundw
                case rel =>
                  refine ⟨k + 1, true, (lO ++ [⟨va, vc, vt, dL.length, vC⟩]), (O ++ [⟨va, vc, dL⟩]), A6, c6, by omega, by go_num, rfl, by first | rfl | (simp; done), by simp only [List.length_append, List.length_cons, List.length_nil, Bool.toNat_true, Bool.toNat_false]; omega, ?_, ?_, (htO.append (PoTab.cons.2 ⟨⟨rfl, rfl, rfl, HSV.out⟩, PoTab.nil _⟩)), hBz⟩
                  · have h := HI.out
                    simpa [HL0.out, HU0.out, List.append_assoc] using h
                  · simpa [rc, Po.cells, List.append_assoc] using hoz
                case measure => simp [intOf]; omega
            · have h1b : (va == a) = false := by simpa using h1
              have HU0 : Hid (unH a c ⟨va, vc, dL⟩ = false) := Lib.hid (by simp [unH, h1])
              clear h1
              go_wp2_with fail
              refine wp_region_held_drew (S := (fun V => Below W.heap.size W V ∧ V.ownsRow W.heap.size 97 3 (.slice A' lO.length c') lO.length (rc Po.cells lO))) (by kernel_rfl) (by exact ⟨hB.drew, own_below hown ((Below.refl _ _).drew)⟩) (fun hHeld => ?_)
              refine tkZ (i := 0) (oi := ⟨some 37, _, _, _, _, _⟩) (v := ?_) rfl (by kernel_rfl) (fun _ _ _ h => h) (Or.inl ⟨by rfl, ?_⟩) hHeld ?_
              rotate_left
              · (intro w hSw; clear hSw; go_simp <;> with_reducible rfl)
              try simp only [pqZ]
              refine tkZ (i := 1) (oi := ⟨some 38, _, _, _, _, _⟩) (v := ?_) rfl (by kernel_rfl) (fun _ _ _ h => h) (Or.inl ⟨by rfl, ?_⟩) hHeld ?_
              rotate_left
              · (intro w hSw; clear hSw; go_simp <;> with_reducible rfl)
              try simp only [pqZ]
              refine tkZ (i := 2) (oi := ⟨some 39, _, _, _, _, _⟩) (v := ?_) rfl (by kernel_rfl) (fun _ _ _ h => h) (Or.inl ⟨by rfl, ?_⟩) hHeld ?_
              rotate_left
              · (intro w hSw; clear hSw; go_simp <;> with_reducible rfl)
              try simp only [pqZ]
              refine tkZ (i := 3) (oi := ⟨some 40, _, _, _, _, _⟩) (v := undef) rfl (by kernel_rfl) (fun _ _ _ h => h) (Or.inr ⟨by rfl, rfl⟩) hHeld ?_
              try simp only [pqZ]
              refine tkZ (i := 4) (oi := ⟨some 41, _, _, _, _, _⟩) (v := undef) rfl (by kernel_rfl) (fun _ _ _ h => h) (Or.inr ⟨by rfl, rfl⟩) hHeld ?_
              try simp only [pqZ]
              refine tkZ (i := 5) (oi := ⟨some 42, _, _, _, _, _⟩) (v := undef) rfl (by kernel_rfl) (fun _ _ _ h => h) (Or.inr ⟨by rfl, rfl⟩) hHeld ?_
              try simp only [pqZ]
              refine tkZ (i := 6) (oi := ⟨some 43, _, _, _, _, _⟩) (v := undef) rfl (by kernel_rfl) (fun _ _ _ h => h) (Or.inr ⟨by rfl, rfl⟩) hHeld ?_
              try simp only [pqZ]
              refine tkZ (i := 7) (oi := ⟨some 44, _, _, _, _, _⟩) (v := undef) rfl (by kernel_rfl) (fun _ _ _ h => h) (Or.inr ⟨by rfl, rfl⟩) hHeld ?_
              try simp only [pqZ]
              refine tkZ (i := 8) (oi := ⟨some 45, _, _, _, _, _⟩) (v := undef) rfl (by kernel_rfl) (fun _ _ _ h => h) (Or.inr ⟨by rfl, rfl⟩) hHeld ?_
              try simp only [pqZ]
              refine tkZ (i := 9) (oi := ⟨some 46, _, _, _, _, _⟩) (v := undef) rfl (by kernel_rfl) (fun _ _ _ h => h) (Or.inr ⟨by rfl, rfl⟩) hHeld ?_
              try simp only [pqZ]
              refine tkZ (i := 10) (oi := ⟨some 47, _, _, _, _, _⟩) (v := undef) rfl (by kernel_rfl) (fun _ _ _ h => h) (Or.inr ⟨by rfl, rfl⟩) hHeld ?_
              try simp only [pqZ]
              refine tkZ (i := 11) (oi := ⟨some 48, _, _, _, _, _⟩) (v := ?_) rfl (by kernel_rfl) (fun _ _ _ h => h) (Or.inl ⟨by rfl, ?_⟩) hHeld ?_
              rotate_left
              · (intro w hSw; clear hSw; go_simp <;> with_reducible rfl)
              try simp only [pqZ]
              refine wpAnyH_done (by kernel_rfl) ?_ _
              obtain ⟨hB2, ho1⟩ := hHeld
              have hsz := hB2.size
              go_upto_region 14 with fail
              have hB8 := hB2
              have ho8 := ho1
              refine wp_region_held_drew (S := (fun V => Below W.heap.size W V ∧ V.ownsRow W.heap.size 97 3 (.slice A' lO.length c') lO.length (rc Po.cells lO))) (by kernel_rfl) (by exact ⟨hB8.drew, own_below ho8 ((Below.refl _ _).drew)⟩) (fun hHeld => ?_)
              refine tkZ (i := 0) (oi := ⟨some 55, _, _, _, _, _⟩) (v := ?_) rfl (by kernel_rfl) (fun _ _ _ h => h) (Or.inl ⟨by rfl, ?_⟩) hHeld ?_
              rotate_left
              · (intro w hSw; clear hSw; go_simp <;> with_reducible rfl)
              try simp only [pqZ]
              refine tkZ (i := 1) (oi := ⟨some 56, _, _, _, _, _⟩) (v := ?_) rfl (by kernel_rfl) (fun _ _ _ h => h) (Or.inl ⟨by rfl, ?_⟩) hHeld ?_
              rotate_left
              · (intro w hSw; clear hSw; go_simp <;> with_reducible rfl)
              try simp only [pqZ]
              refine tkZ (i := 2) (oi := ⟨some 57, _, _, _, _, _⟩) (v := ?_) rfl (by kernel_rfl) (fun _ _ _ h => h) (Or.inl ⟨by rfl, ?_⟩) hHeld ?_
              rotate_left
              · (intro w hSw; clear hSw; go_simp <;> with_reducible rfl)
              try simp only [pqZ]
              refine tkZ (i := 3) (oi := ⟨some 58, _, _, _, _, _⟩) (v := ?_) rfl (by kernel_rfl) (fun _ _ _ h => h) (Or.inl ⟨by rfl, ?_⟩) hHeld ?_
              rotate_left
              · (intro w hSw; clear hSw; go_simp <;> with_reducible rfl)
              try simp only [pqZ]
              refine tkZ (i := 4) (oi := ⟨some 59, _, _, _, _, _⟩) (v := ?_) rfl (by kernel_rfl) (fun _ _ _ h => h) (Or.inl ⟨by rfl, ?_⟩) hHeld ?_
              rotate_left
              · (intro w hSw; obtain ⟨g0, g1, g2⟩ := HG.out _ (hSw).1; have ck := (HKW.out _ (hSw).1).2; have k0 := ck 0; have k1 := ck 1; simp at k0 k1; clear ck; go_simp <;> with_reducible rfl)
              try simp only [pqZ]
              refine tkZ (i := 5) (oi := ⟨some 60, _, _, _, _, _⟩) (v := ?_) rfl (by kernel_rfl) (fun _ _ _ h => h) (Or.inl ⟨by rfl, ?_⟩) hHeld ?_
              rotate_left
              · (intro w hSw; obtain ⟨g0, g1, g2⟩ := HG.out _ (hSw).1; have ck := (HKW.out _ (hSw).1).2; have k0 := ck 0; have k1 := ck 1; simp at k0 k1; clear ck; go_simp <;> with_reducible rfl)
              try simp only [pqZ]
              refine tkZ (i := 6) (oi := ⟨some 61, _, _, _, _, _⟩) (v := ?_) rfl (by kernel_rfl) (fun _ _ _ h => h) (Or.inl ⟨by rfl, ?_⟩) hHeld ?_
              rotate_left
              · (intro w hSw; clear hSw; go_simp <;> with_reducible rfl)
              try simp only [pqZ]
              refine wpAnyH_done (by kernel_rfl) ?_ _
              obtain ⟨hB9, ho9⟩ := hHeld
              have hsz9 := hB9.size
              obtain ⟨g0, g1, g2⟩ := HG.out _ hB9
              go_wp2_with (first
                | (at_builtin; refine wpList_app rfl (.tmp 62) (.tmp 67) rfl EPo rfl rfl (ho9.alloc _) (m := 1) (news := [.int .i64 va, .int .i64 vc, .slice vt dL.length vC]) rfl (Sl.new_ _ _ _) (Po.one ⟨va, vc, vt, dL.length, vC⟩) (by unfold maxLen; omega) (by omega) (by have hz := hsz9; (try simp only [World.size_alloc, World.size_drew] at hz ⊢); omega) ?_; intro A6 c6 w6 hown6 hg6 hb6)
                | fail)
              have hBz := (since_alloc hB9 _).trans hb6
              have hoz := hown6
              go_roundw
              case rel =>
                refine ⟨k + 1, true, (lO ++ [⟨va, vc, vt, dL.length, vC⟩]), (O ++ [⟨va, vc, dL⟩]), A6, c6, by omega, by go_num, rfl, by first | rfl | (simp; done), by simp only [List.length_append, List.length_cons, List.length_nil, Bool.toNat_true, Bool.toNat_false]; omega, ?_, ?_, (htO.append (PoTab.cons.2 ⟨⟨rfl, rfl, rfl, HSV.out⟩, PoTab.nil _⟩)), hBz⟩
                · have h := HI.out
                  simpa [HL0.out, HU0.out, List.append_assoc] using h
                · simpa [rc, Po.cells, List.append_assoc] using hoz
              case measure => simp [intOf]; omega
          | false =>
            have hlO : lO.length ≤ k := hlO
            cases hah : keyLt va vc a c with
            | true =>
              have HL := Lib.hid hah
              have HL0 : Hid (ahH ⟨va, vc, dL⟩ ⟨a, c, RL⟩ = true) := Lib.hid hah
              have HNO : Hid (¬ (va = a ∧ vc = c)) := Lib.hid (by rw [keyLt_iff] at hah; omega)
              clear hah
              by_cases h1 : va = a
              · subst h1
                by_cases h2 : vc = c
                · subst h2
                  exact absurd ⟨rfl, rfl⟩ HNO.out
                · have h2b : (vc == c) = false := by simpa using h2
                  have HU0 : Hid (unH va c ⟨va, vc, dL⟩ = false) := Lib.hid (by simp [unH, h2])
                  clear h2
                  go_wp2_with fail
                  refine wp_region_held_drew (S := (fun V => Below W.heap.size W V ∧ V.ownsRow W.heap.size 97 3 (.slice A' lO.length c') lO.length (rc Po.cells lO))) (by kernel_rfl) (by exact ⟨hB.drew, own_below hown ((Below.refl _ _).drew)⟩) (fun hHeld => ?_)
                  refine tkZ (i := 0) (oi := ⟨some 37, _, _, _, _, _⟩) (v := ?_) rfl (by kernel_rfl) (fun _ _ _ h => h) (Or.inl ⟨by rfl, ?_⟩) hHeld ?_
                  rotate_left
                  · (intro w hSw; clear hSw; go_simp <;> with_reducible rfl)
                  try simp only [pqZ]
                  refine tkZ (i := 1) (oi := ⟨some 38, _, _, _, _, _⟩) (v := ?_) rfl (by kernel_rfl) (fun _ _ _ h => h) (Or.inl ⟨by rfl, ?_⟩) hHeld ?_
                  rotate_left
                  · (intro w hSw; clear hSw; go_simp <;> with_reducible rfl)
                  try simp only [pqZ]
                  refine tkZ (i := 2) (oi := ⟨some 39, _, _, _, _, _⟩) (v := ?_) rfl (by kernel_rfl) (fun _ _ _ h => h) (Or.inl ⟨by rfl, ?_⟩) hHeld ?_
                  rotate_left
                  · (intro w hSw; clear hSw; go_simp <;> with_reducible rfl)
                  try simp only [pqZ]
                  refine tkZ (i := 3) (oi := ⟨some 40, _, _, _, _, _⟩) (v := ?_) rfl (by kernel_rfl) (fun _ _ _ h => h) (Or.inl ⟨by rfl, ?_⟩) hHeld ?_
                  rotate_left
                  · (intro w hSw; clear hSw; go_simp <;> with_reducible rfl)
                  try simp only [pqZ]
                  refine tkZ (i := 4) (oi := ⟨some 41, _, _, _, _, _⟩) (v := ?_) rfl (by kernel_rfl) (fun _ _ _ h => h) (Or.inl ⟨by rfl, ?_⟩) hHeld ?_
                  rotate_left
                  · (intro w hSw; clear hSw; go_simp <;> with_reducible rfl)
                  try simp only [pqZ]
                  refine tkZ (i := 5) (oi := ⟨some 42, _, _, _, _, _⟩) (v := ?_) rfl (by kernel_rfl) (fun _ _ _ h => h) (Or.inl ⟨by rfl, ?_⟩) hHeld ?_
                  rotate_left
                  · (intro w hSw; clear hSw; go_simp <;> with_reducible rfl)
                  try simp only [pqZ]
                  refine tkZ (i := 6) (oi := ⟨some 43, _, _, _, _, _⟩) (v := ?_) rfl (by kernel_rfl) (fun _ _ _ h => h) (Or.inl ⟨by rfl, ?_⟩) hHeld ?_
                  rotate_left
                  · (intro w hSw; clear hSw; go_simp <;> with_reducible rfl)
                  try simp only [pqZ]
                  refine tkZ (i := 7) (oi := ⟨some 44, _, _, _, _, _⟩) (v := ?_) rfl (by kernel_rfl) (fun _ _ _ h => h) (Or.inl ⟨by rfl, ?_⟩) hHeld ?_
                  rotate_left
                  · (intro w hSw; obtain ⟨g0, g1, g2⟩ := HG.out _ (hSw).1; have ck := (HKW.out _ (hSw).1).2; have k0 := ck 0; have k1 := ck 1; simp at k0 k1; clear ck; go_simp <;> with_reducible rfl)
                  try simp only [pqZ]
                  refine tkZ (i := 8) (oi := ⟨some 45, _, _, _, _, _⟩) (v := ?_) rfl (by kernel_rfl) (fun _ _ _ h => h) (Or.inl ⟨by rfl, ?_⟩) hHeld ?_
                  rotate_left
                  · (intro w hSw; obtain ⟨g0, g1, g2⟩ := HG.out _ (hSw).1; have ck := (HKW.out _ (hSw).1).2; have k0 := ck 0; have k1 := ck 1; simp at k0 k1; clear ck; go_simp <;> with_reducible rfl)
                  try simp only [pqZ]
                  refine wpAnyH_ready (rs := [9]) (by kernel_rfl) (by simp) ?_
                  refine AllReadyH.cons (o := ⟨some 46, _, _, _, _, _⟩) rfl (fun K hK => ?_) AllReadyH.nil
                  go_simp
                  refine (r15less_any _ _ _ _ _).mono ?_
                  rintro e u1 ⟨rfl, hk1⟩
                  have hKeep := And.intro (since_step hHeld.1 hk1) (own_below hHeld.2 hk1)
                  rw [HL.out]
                  go_wp2_with fail
                  refine hK.out _ _ (by (try dsimp only); exact hKeep) (fun hHeld => ?_)
                  clear hK K hKeep
                  try simp only [pqZ]
                  refine tkZ (i := 10) (oi := ⟨some 47, _, _, _, _, _⟩) (v := ?_) rfl (by kernel_rfl) (fun _ _ _ h => h) (Or.inl ⟨by rfl, ?_⟩) hHeld ?_
                  rotate_left
                  · (intro w hSw; clear hSw; go_simp <;> with_reducible rfl)
                  try simp only [pqZ]
                  refine tkZ (i := 11) (oi := ⟨some 48, _, _, _, _, _⟩) (v := ?_) rfl (by kernel_rfl) (fun _ _ _ h => h) (Or.inl ⟨by rfl, ?_⟩) hHeld ?_
                  rotate_left
                  · (intro w hSw; clear hSw; go_simp <;> with_reducible rfl)
                  try simp only [pqZ]
                  refine wpAnyH_done (by kernel_rfl) ?_ _
                  obtain ⟨hB2, ho1⟩ := hHeld
                  have hsz := hB2.size
                  go_upto_region 14 with fail
                  have hB8 := hB2
                  have ho8 := ho1
                  refine wp_region_held_drew (S := (fun V => Below W.heap.size W V ∧ V.ownsRow W.heap.size 97 3 (.slice A' lO.length c') lO.length (rc Po.cells lO))) (by kernel_rfl) (by exact ⟨hB8.drew, own_below ho8 ((Below.refl _ _).drew)⟩) (fun hHeld => ?_)
                  refine tkZ (i := 0) (oi := ⟨some 55, _, _, _, _, _⟩) (v := ?_) rfl (by kernel_rfl) (fun _ _ _ h => h) (Or.inl ⟨by rfl, ?_⟩) hHeld ?_
                  rotate_left
                  · (intro w hSw; clear hSw; go_simp <;> with_reducible rfl)
                  try simp only [pqZ]
                  refine tkZ (i := 1) (oi := ⟨some 56, _, _, _, _, _⟩) (v := ?_) rfl (by kernel_rfl) (fun _ _ _ h => h) (Or.inl ⟨by rfl, ?_⟩) hHeld ?_
                  rotate_left
                  · (intro w hSw; clear hSw; go_simp <;> with_reducible rfl)
                  try simp only [pqZ]
                  refine tkZ (i := 2) (oi := ⟨some 57, _, _, _, _, _⟩) (v := ?_) rfl (by kernel_rfl) (fun _ _ _ h => h) (Or.inl ⟨by rfl, ?_⟩) hHeld ?_
                  rotate_left
                  · (intro w hSw; clear hSw; go_simp <;> with_reducible rfl)
                  try simp only [pqZ]
                  refine tkZ (i := 3) (oi := ⟨some 58, _, _, _, _, _⟩) (v := ?_) rfl (by kernel_rfl) (fun _ _ _ h => h) (Or.inl ⟨by rfl, ?_⟩) hHeld ?_
                  rotate_left
                  · (intro w hSw; clear hSw; go_simp <;> with_reducible rfl)
                  try simp only [pqZ]
                  refine tkZ (i := 4) (oi := ⟨some 59, _, _, _, _, _⟩) (v := ?_) rfl (by kernel_rfl) (fun _ _ _ h => h) (Or.inl ⟨by rfl, ?_⟩) hHeld ?_
                  rotate_left
                  · (intro w hSw; obtain ⟨g0, g1, g2⟩ := HG.out _ (hSw).1; have ck := (HKW.out _ (hSw).1).2; have k0 := ck 0; have k1 := ck 1; simp at k0 k1; clear ck; go_simp <;> with_reducible rfl)
                  try simp only [pqZ]
                  refine tkZ (i := 5) (oi := ⟨some 60, _, _, _, _, _⟩) (v := ?_) rfl (by kernel_rfl) (fun _ _ _ h => h) (Or.inl ⟨by rfl, ?_⟩) hHeld ?_
                  rotate_left
                  · (intro w hSw; obtain ⟨g0, g1, g2⟩ := HG.out _ (hSw).1; have ck := (HKW.out _ (hSw).1).2; have k0 := ck 0; have k1 := ck 1; simp at k0 k1; clear ck; go_simp <;> with_reducible rfl)
                  try simp only [pqZ]
                  refine tkZ (i := 6) (oi := ⟨some 61, _, _, _, _, _⟩) (v := ?_) rfl (by kernel_rfl) (fun _ _ _ h => h) (Or.inl ⟨by rfl, ?_⟩) hHeld ?_
                  rotate_left
                  · (intro w hSw; clear hSw; go_simp <;> with_reducible rfl)
                  try simp only [pqZ]
                  refine wpAnyH_done (by kernel_rfl) ?_ _
                  obtain ⟨hB9, ho9⟩ := hHeld
                  have hsz9 := hB9.size
                  obtain ⟨g0, g1, g2⟩ := HG.out _ hB9
                  go_wp2_with (first
                    | (at_builtin; refine wpList_app rfl (.tmp 62) (.tmp 67) rfl EPo rfl rfl (ho9.alloc _) (m := 1) (news := [.int .i64 va, .int .i64 vc, .slice vt dL.length vC]) rfl (Sl.new_ _ _ _) (Po.one ⟨va, vc, vt, dL.length, vC⟩) (by unfold maxLen; omega) (by omega) (by have hz := hsz9; (try simp only [World.size_alloc, World.size_drew] at hz ⊢); omega) ?_; intro A6 c6 w6 hown6 hg6 hb6)
                    | fail)
                  have hBz := (since_alloc hB9 _).trans hb6
                  have hoz := hown6
                  go_roundw
                  case rel =>
                    refine ⟨k + 1, false, (lO ++ [⟨va, vc, vt, dL.length, vC⟩]), (O ++ [⟨va, vc, dL⟩]), A6, c6, by omega, by go_num, rfl, by first | rfl | (simp; done), by simp only [List.length_append, List.length_cons, List.length_nil, Bool.toNat_true, Bool.toNat_false]; omega, ?_, ?_, (htO.append (PoTab.cons.2 ⟨⟨rfl, rfl, rfl, HSV.out⟩, PoTab.nil _⟩)), hBz⟩
                    · have h := HI.out
                      simpa [HL0.out, HU0.out, List.append_assoc] using h
                    · simpa [rc, Po.cells, List.append_assoc] using hoz
                  case measure => simp [intOf]; omega
              · have h1b : (va == a) = false := by simpa using h1
                have HU0 : Hid (unH a c ⟨va, vc, dL⟩ = false) := Lib.hid (by simp [unH, h1])
                clear h1
                go_wp2_with fail
                refine wp_region_held_drew (S := (fun V => Below W.heap.size W V ∧ V.ownsRow W.heap.size 97 3 (.slice A' lO.length c') lO.length (rc Po.cells lO))) (by kernel_rfl) (by exact ⟨hB.drew, own_below hown ((Below.refl _ _).drew)⟩) (fun hHeld => ?_)
                refine tkZ (i := 0) (oi := ⟨some 37, _, _, _, _, _⟩) (v := ?_) rfl (by kernel_rfl) (fun _ _ _ h => h) (Or.inl ⟨by rfl, ?_⟩) hHeld ?_
                rotate_left
                · (intro w hSw; clear hSw; go_simp <;> with_reducible rfl)
                try simp only [pqZ]
                refine tkZ (i := 1) (oi := ⟨some 38, _, _, _, _, _⟩) (v := ?_) rfl (by kernel_rfl) (fun _ _ _ h => h) (Or.inl ⟨by rfl, ?_⟩) hHeld ?_
                rotate_left
                · (intro w hSw; clear hSw; go_simp <;> with_reducible rfl)
                try simp only [pqZ]
                refine tkZ (i := 2) (oi := ⟨some 39, _, _, _, _, _⟩) (v := ?_) rfl (by kernel_rfl) (fun _ _ _ h => h) (Or.inl ⟨by rfl, ?_⟩) hHeld ?_
                rotate_left
                · (intro w hSw; clear hSw; go_simp <;> with_reducible rfl)
                try simp only [pqZ]
                refine tkZ (i := 3) (oi := ⟨some 40, _, _, _, _, _⟩) (v := ?_) rfl (by kernel_rfl) (fun _ _ _ h => h) (Or.inl ⟨by rfl, ?_⟩) hHeld ?_
                rotate_left
                · (intro w hSw; clear hSw; go_simp <;> with_reducible rfl)
                try simp only [pqZ]
                refine tkZ (i := 4) (oi := ⟨some 41, _, _, _, _, _⟩) (v := ?_) rfl (by kernel_rfl) (fun _ _ _ h => h) (Or.inl ⟨by rfl, ?_⟩) hHeld ?_
                rotate_left
                · (intro w hSw; clear hSw; go_simp <;> with_reducible rfl)
                try simp only [pqZ]
                refine tkZ (i := 5) (oi := ⟨some 42, _, _, _, _, _⟩) (v := ?_) rfl (by kernel_rfl) (fun _ _ _ h => h) (Or.inl ⟨by rfl, ?_⟩) hHeld ?_
                rotate_left
                · (intro w hSw; clear hSw; go_simp <;> with_reducible rfl)
                try simp only [pqZ]
                refine tkZ (i := 6) (oi := ⟨some 43, _, _, _, _, _⟩) (v := ?_) rfl (by kernel_rfl) (fun _ _ _ h => h) (Or.inl ⟨by rfl, ?_⟩) hHeld ?_
                rotate_left
                · (intro w hSw; clear hSw; go_simp <;> with_reducible rfl)
                try simp only [pqZ]
                refine tkZ (i := 7) (oi := ⟨some 44, _, _, _, _, _⟩) (v := ?_) rfl (by kernel_rfl) (fun _ _ _ h => h) (Or.inl ⟨by rfl, ?_⟩) hHeld ?_
                rotate_left
                · (intro w hSw; obtain ⟨g0, g1, g2⟩ := HG.out _ (hSw).1; have ck := (HKW.out _ (hSw).1).2; have k0 := ck 0; have k1 := ck 1; simp at k0 k1; clear ck; go_simp <;> with_reducible rfl)
                try simp only [pqZ]
                refine tkZ (i := 8) (oi := ⟨some 45, _, _, _, _, _⟩) (v := ?_) rfl (by kernel_rfl) (fun _ _ _ h => h) (Or.inl ⟨by rfl, ?_⟩) hHeld ?_
                rotate_left
                · (intro w hSw; obtain ⟨g0, g1, g2⟩ := HG.out _ (hSw).1; have ck := (HKW.out _ (hSw).1).2; have k0 := ck 0; have k1 := ck 1; simp at k0 k1; clear ck; go_simp <;> with_reducible rfl)
                try simp only [pqZ]
                refine wpAnyH_ready (rs := [9]) (by kernel_rfl) (by simp) ?_
                refine AllReadyH.cons (o := ⟨some 46, _, _, _, _, _⟩) rfl (fun K hK => ?_) AllReadyH.nil
                go_simp
                refine (r15less_any _ _ _ _ _).mono ?_
                rintro e u1 ⟨rfl, hk1⟩
                have hKeep := And.intro (since_step hHeld.1 hk1) (own_below hHeld.2 hk1)
                rw [HL.out]
                go_wp2_with fail
                refine hK.out _ _ (by (try dsimp only); exact hKeep) (fun hHeld => ?_)
                clear hK K hKeep
                try simp only [pqZ]
                refine tkZ (i := 10) (oi := ⟨some 47, _, _, _, _, _⟩) (v := ?_) rfl (by kernel_rfl) (fun _ _ _ h => h) (Or.inl ⟨by rfl, ?_⟩) hHeld ?_
                rotate_left
                · (intro w hSw; clear hSw; go_simp <;> with_reducible rfl)
                try simp only [pqZ]
                refine tkZ (i := 11) (oi := ⟨some 48, _, _, _, _, _⟩) (v := ?_) rfl (by kernel_rfl) (fun _ _ _ h => h) (Or.inl ⟨by rfl, ?_⟩) hHeld ?_
                rotate_left
                · (intro w hSw; clear hSw; go_simp <;> with_reducible rfl)
                try simp only [pqZ]
                refine wpAnyH_done (by kernel_rfl) ?_ _
                obtain ⟨hB2, ho1⟩ := hHeld
                have hsz := hB2.size
                go_upto_region 14 with fail
                have hB8 := hB2
                have ho8 := ho1
                refine wp_region_held_drew (S := (fun V => Below W.heap.size W V ∧ V.ownsRow W.heap.size 97 3 (.slice A' lO.length c') lO.length (rc Po.cells lO))) (by kernel_rfl) (by exact ⟨hB8.drew, own_below ho8 ((Below.refl _ _).drew)⟩) (fun hHeld => ?_)
                refine tkZ (i := 0) (oi := ⟨some 55, _, _, _, _, _⟩) (v := ?_) rfl (by kernel_rfl) (fun _ _ _ h => h) (Or.inl ⟨by rfl, ?_⟩) hHeld ?_
                rotate_left
                · (intro w hSw; clear hSw; go_simp <;> with_reducible rfl)
                try simp only [pqZ]
                refine tkZ (i := 1) (oi := ⟨some 56, _, _, _, _, _⟩) (v := ?_) rfl (by kernel_rfl) (fun _ _ _ h => h) (Or.inl ⟨by rfl, ?_⟩) hHeld ?_
                rotate_left
                · (intro w hSw; clear hSw; go_simp <;> with_reducible rfl)
                try simp only [pqZ]
                refine tkZ (i := 2) (oi := ⟨some 57, _, _, _, _, _⟩) (v := ?_) rfl (by kernel_rfl) (fun _ _ _ h => h) (Or.inl ⟨by rfl, ?_⟩) hHeld ?_
                rotate_left
                · (intro w hSw; clear hSw; go_simp <;> with_reducible rfl)
                try simp only [pqZ]
                refine tkZ (i := 3) (oi := ⟨some 58, _, _, _, _, _⟩) (v := ?_) rfl (by kernel_rfl) (fun _ _ _ h => h) (Or.inl ⟨by rfl, ?_⟩) hHeld ?_
                rotate_left
                · (intro w hSw; clear hSw; go_simp <;> with_reducible rfl)
                try simp only [pqZ]
                refine tkZ (i := 4) (oi := ⟨some 59, _, _, _, _, _⟩) (v := ?_) rfl (by kernel_rfl) (fun _ _ _ h => h) (Or.inl ⟨by rfl, ?_⟩) hHeld ?_
                rotate_left
                · (intro w hSw; obtain ⟨g0, g1, g2⟩ := HG.out _ (hSw).1; have ck := (HKW.out _ (hSw).1).2; have k0 := ck 0; have k1 := ck 1; simp at k0 k1; clear ck; go_simp <;> with_reducible rfl)
                try simp only [pqZ]
                refine tkZ (i := 5) (oi := ⟨some 60, _, _, _, _, _⟩) (v := ?_) rfl (by kernel_rfl) (fun _ _ _ h => h) (Or.inl ⟨by rfl, ?_⟩) hHeld ?_
                rotate_left
                · (intro w hSw; obtain ⟨g0, g1, g2⟩ := HG.out _ (hSw).1; have ck := (HKW.out _ (hSw).1).2; have k0 := ck 0; have k1 := ck 1; simp at k0 k1; clear ck; go_simp <;> with_reducible rfl)
                try simp only [pqZ]
                refine tkZ (i := 6) (oi := ⟨some 61, _, _, _, _, _⟩) (v := ?_) rfl (by kernel_rfl) (fun _ _ _ h => h) (Or.inl ⟨by rfl, ?_⟩) hHeld ?_
                rotate_left
                · (intro w hSw; clear hSw; go_simp <;> with_reducible rfl)
                try simp only [pqZ]
                refine wpAnyH_done (by kernel_rfl) ?_ _
                obtain ⟨hB9, ho9⟩ := hHeld
                have hsz9 := hB9.size
                obtain ⟨g0, g1, g2⟩ := HG.out _ hB9
                go_wp2_with (first
                  | (at_builtin; refine wpList_app rfl (.tmp 62) (.tmp 67) rfl EPo rfl rfl (ho9.alloc _) (m := 1) (news := [.int .i64 va, .int .i64 vc, .slice vt dL.length vC]) rfl (Sl.new_ _ _ _) (Po.one ⟨va, vc, vt, dL.length, vC⟩) (by unfold maxLen; omega) (by omega) (by have hz := hsz9; (try simp only [World.size_alloc, World.size_drew] at hz ⊢); omega) ?_; intro A6 c6 w6 hown6 hg6 hb6)
                  | fail)
                have hBz := (since_alloc hB9 _).trans hb6
                have hoz := hown6
                go_roundw
                case rel =>
                  refine ⟨k + 1, false, (lO ++ [⟨va, vc, vt, dL.length, vC⟩]), (O ++ [⟨va, vc, dL⟩]), A6, c6, by omega, by go_num, rfl, by first | rfl | (simp; done), by simp only [List.length_append, List.length_cons, List.length_nil, Bool.toNat_true, Bool.toNat_false]; omega, ?_, ?_, (htO.append (PoTab.cons.2 ⟨⟨rfl, rfl, rfl, HSV.out⟩, PoTab.nil _⟩)), hBz⟩
                  · have h := HI.out
                    simpa [HL0.out, HU0.out, List.append_assoc] using h
                  · simpa [rc, Po.cells, List.append_assoc] using hoz
                case measure => simp [intOf]; omega
            | false =>
              have HL := Lib.hid hah
              have HL0 : Hid (ahH ⟨va, vc, dL⟩ ⟨a, c, RL⟩ = false) := Lib.hid hah
              clear hah
              by_cases h1 : va = a
              · subst h1
                by_cases h2 : vc = c
                · subst h2
                  have HU0 : Hid (unH va vc ⟨va, vc, dL⟩ = true) := Lib.hid (by simp [unH])
                  go_wp2_with fail
                  refine wp_region_held_drew (S := (fun V => Below W.heap.size W V ∧ V.ownsRow W.heap.size 97 3 (.slice A' lO.length c') lO.length (rc Po.cells lO))) (by kernel_rfl) (by exact ⟨hB.drew, own_below hown ((Below.refl _ _).drew)⟩) (fun hHeld => ?_)
                  refine tkZ (i := 0) (oi := ⟨some 37, _, _, _, _, _⟩) (v := ?_) rfl (by kernel_rfl) (fun _ _ _ h => h) (Or.inl ⟨by rfl, ?_⟩) hHeld ?_
                  rotate_left
                  · (intro w hSw; clear hSw; go_simp <;> with_reducible rfl)
                  try simp only [pqZ]
                  refine tkZ (i := 1) (oi := ⟨some 38, _, _, _, _, _⟩) (v := ?_) rfl (by kernel_rfl) (fun _ _ _ h => h) (Or.inl ⟨by rfl, ?_⟩) hHeld ?_
                  rotate_left
                  · (intro w hSw; clear hSw; go_simp <;> with_reducible rfl)
                  try simp only [pqZ]
                  refine tkZ (i := 2) (oi := ⟨some 39, _, _, _, _, _⟩) (v := ?_) rfl (by kernel_rfl) (fun _ _ _ h => h) (Or.inl ⟨by rfl, ?_⟩) hHeld ?_
                  rotate_left
                  · (intro w hSw; clear hSw; go_simp <;> with_reducible rfl)
                  try simp only [pqZ]
                  refine tkZ (i := 3) (oi := ⟨some 40, _, _, _, _, _⟩) (v := ?_) rfl (by kernel_rfl) (fun _ _ _ h => h) (Or.inl ⟨by rfl, ?_⟩) hHeld ?_
                  rotate_left
                  · (intro w hSw; clear hSw; go_simp <;> with_reducible rfl)
                  try simp only [pqZ]
                  refine tkZ (i := 4) (oi := ⟨some 41, _, _, _, _, _⟩) (v := ?_) rfl (by kernel_rfl) (fun _ _ _ h => h) (Or.inl ⟨by rfl, ?_⟩) hHeld ?_
                  rotate_left
                  · (intro w hSw; clear hSw; go_simp <;> with_reducible rfl)
                  try simp only [pqZ]
                  refine tkZ (i := 5) (oi := ⟨some 42, _, _, _, _, _⟩) (v := ?_) rfl (by kernel_rfl) (fun _ _ _ h => h) (Or.inl ⟨by rfl, ?_⟩) hHeld ?_
                  rotate_left
                  · (intro w hSw; clear hSw; go_simp <;> with_reducible rfl)
                  try simp only [pqZ]
                  refine tkZ (i := 6) (oi := ⟨some 43, _, _, _, _, _⟩) (v := ?_) rfl (by kernel_rfl) (fun _ _ _ h => h) (Or.inl ⟨by rfl, ?_⟩) hHeld ?_
                  rotate_left
                  · (intro w hSw; clear hSw; go_simp <;> with_reducible rfl)
                  try simp only [pqZ]
                  refine tkZ (i := 7) (oi := ⟨some 44, _, _, _, _, _⟩) (v := ?_) rfl (by kernel_rfl) (fun _ _ _ h => h) (Or.inl ⟨by rfl, ?_⟩) hHeld ?_
                  rotate_left
                  · (intro w hSw; obtain ⟨g0, g1, g2⟩ := HG.out _ (hSw).1; have ck := (HKW.out _ (hSw).1).2; have k0 := ck 0; have k1 := ck 1; simp at k0 k1; clear ck; go_simp <;> with_reducible rfl)
                  try simp only [pqZ]
                  refine tkZ (i := 8) (oi := ⟨some 45, _, _, _, _, _⟩) (v := ?_) rfl (by kernel_rfl) (fun _ _ _ h => h) (Or.inl ⟨by rfl, ?_⟩) hHeld ?_
                  rotate_left
                  · (intro w hSw; obtain ⟨g0, g1, g2⟩ := HG.out _ (hSw).1; have ck := (HKW.out _ (hSw).1).2; have k0 := ck 0; have k1 := ck 1; simp at k0 k1; clear ck; go_simp <;> with_reducible rfl)
                  try simp only [pqZ]
                  refine wpAnyH_ready (rs := [9]) (by kernel_rfl) (by simp) ?_
                  refine AllReadyH.cons (o := ⟨some 46, _, _, _, _, _⟩) rfl (fun K hK => ?_) AllReadyH.nil
                  go_simp
                  refine (r15less_any _ _ _ _ _).mono ?_
                  rintro e u1 ⟨rfl, hk1⟩
                  have hKeep := And.intro (since_step hHeld.1 hk1) (own_below hHeld.2 hk1)
                  rw [HL.out]
                  go_wp2_with fail
                  refine hK.out _ _ (by (try dsimp only); exact hKeep) (fun hHeld => ?_)
                  clear hK K hKeep
                  try simp only [pqZ]
                  refine tkZ (i := 10) (oi := ⟨some 47, _, _, _, _, _⟩) (v := ?_) rfl (by kernel_rfl) (fun _ _ _ h => h) (Or.inl ⟨by rfl, ?_⟩) hHeld ?_
                  rotate_left
                  · (intro w hSw; clear hSw; go_simp <;> with_reducible rfl)
                  try simp only [pqZ]
                  refine tkZ (i := 11) (oi := ⟨some 48, _, _, _, _, _⟩) (v := ?_) rfl (by kernel_rfl) (fun _ _ _ h => h) (Or.inl ⟨by rfl, ?_⟩) hHeld ?_
                  rotate_left
                  · (intro w hSw; clear hSw; go_simp <;> with_reducible rfl)
                  try simp only [pqZ]
                  refine wpAnyH_done (by kernel_rfl) ?_ _
                  obtain ⟨hB2, ho1⟩ := hHeld
                  have hsz := hB2.size
                  have ck := (HKW.out _ hB2).2; have k0 := ck 0; have k1 := ck 1; simp at k0 k1; clear ck
                  go_upto_region 14 with (first
                    | (at_builtin; refine wpList_app rfl (.tmp 49) (.tmp 53) rfl EPo rfl rfl (ho1.alloc _) (m := 1) (news := [.int .i64 va, .int .i64 vc, .slice A2 RL.length c2]) rfl (Sl.new_ _ _ _) (Po.one ⟨va, vc, A2, RL.length, c2⟩) (by unfold maxLen; omega) (by omega) (by have hz := hsz; (try simp only [World.size_alloc, World.size_drew] at hz ⊢); omega) ?_; intro A5 c5 w5 hown5 hg5 hb5)
                    | fail)
                  have hB8 := (since_alloc hB2 _).trans hb5
                  have ho8 := hown5
                  clear k0 k1
                  refine wp_region_held_drew (S := (fun V => Below W.heap.size W V ∧ V.ownsRow W.heap.size 97 3 (.slice A5 (lO.length + 1) c5) (lO.length + 1) (rc Po.cells lO ++ [.int .i64 va, .int .i64 vc, .slice A2 RL.length c2]))) (by kernel_rfl) (by exact ⟨hB8.drew, own_below ho8 ((Below.refl _ _).drew)⟩) (fun hHeld => ?_)
                  refine tkZ (i := 0) (oi := ⟨some 55, _, _, _, _, _⟩) (v := ?_) rfl (by kernel_rfl) (fun _ _ _ h => h) (Or.inl ⟨by rfl, ?_⟩) hHeld ?_
                  rotate_left
                  · (intro w hSw; clear hSw; go_simp <;> with_reducible rfl)
                  try simp only [pqZ]
                  refine tkZ (i := 1) (oi := ⟨some 56, _, _, _, _, _⟩) (v := ?_) rfl (by kernel_rfl) (fun _ _ _ h => h) (Or.inl ⟨by rfl, ?_⟩) hHeld ?_
                  rotate_left
                  · (intro w hSw; clear hSw; go_simp <;> with_reducible rfl)
                  try simp only [pqZ]
                  refine tkZ (i := 2) (oi := ⟨some 57, _, _, _, _, _⟩) (v := ?_) rfl (by kernel_rfl) (fun _ _ _ h => h) (Or.inl ⟨by rfl, ?_⟩) hHeld ?_
                  rotate_left
                  · (intro w hSw; clear hSw; go_simp <;> with_reducible rfl)
                  try simp only [pqZ]
                  refine tkZ (i := 3) (oi := ⟨some 58, _, _, _, _, _⟩) (v := ?_) rfl (by kernel_rfl) (fun _ _ _ h => h) (Or.inl ⟨by rfl, ?_⟩) hHeld ?_
                  rotate_left
                  · (intro w hSw; clear hSw; go_simp <;> with_reducible rfl)
                  try simp only [pqZ]
                  refine tkZ (i := 4) (oi := ⟨some 59, _, _, _, _, _⟩) (v := ?_) rfl (by kernel_rfl) (fun _ _ _ h => h) (Or.inl ⟨by rfl, ?_⟩) hHeld ?_
                  rotate_left
                  · (intro w hSw; obtain ⟨g0, g1, g2⟩ := HG.out _ (hSw).1; have ck := (HKW.out _ (hSw).1).2; have k0 := ck 0; have k1 := ck 1; simp at k0 k1; clear ck; go_simp <;> with_reducible rfl)
                  try simp only [pqZ]
                  refine tkZ (i := 5) (oi := ⟨some 60, _, _, _, _, _⟩) (v := ?_) rfl (by kernel_rfl) (fun _ _ _ h => h) (Or.inl ⟨by rfl, ?_⟩) hHeld ?_
                  rotate_left
                  · (intro w hSw; obtain ⟨g0, g1, g2⟩ := HG.out _ (hSw).1; have ck := (HKW.out _ (hSw).1).2; have k0 := ck 0; have k1 := ck 1; simp at k0 k1; clear ck; go_simp <;> with_reducible rfl)
                  try simp only [pqZ]
                  refine tkZ (i := 6) (oi := ⟨some 61, _, _, _, _, _⟩) (v := ?_) rfl (by kernel_rfl) (fun _ _ _ h => h) (Or.inl ⟨by rfl, ?_⟩) hHeld ?_
                  rotate_left
                  · (intro w hSw; clear hSw; go_simp <;> with_reducible rfl)
                  try simp only [pqZ]
                  refine wpAnyH_done (by kernel_rfl) ?_ _
                  obtain ⟨hB9, ho9⟩ := hHeld
                  have hsz9 := hB9.size
                  obtain ⟨g0, g1, g2⟩ := HG.out _ hB9
                  go_wp2_with fail
                  have hBz := hB9
                  have hoz := ho9
                  go_roundw
                  case rel =>
                    refine ⟨k + 1, true, (lO ++ [⟨va, vc, A2, RL.length, c2⟩]), (O ++ [⟨va, vc, RL⟩]), A5, c5, by omega, by go_num, rfl, by first | rfl | (simp; done), by simp only [List.length_append, List.length_cons, List.length_nil, Bool.toNat_true, Bool.toNat_false]; omega, ?_, ?_, (htO.append (PoTab.cons.2 ⟨⟨rfl, rfl, rfl, HS2.out⟩, PoTab.nil _⟩)), hBz⟩
                    · have h := HI.out
                      simpa [HL0.out, HU0.out, List.append_assoc] using h
                    · simpa [rc, Po.cells, List.append_assoc] using hoz
                  case measure => simp [intOf]; omega
                · have h2b : (vc == c) = false := by simpa using h2
                  have HU0 : Hid (unH va c ⟨va, vc, dL⟩ = false) := Lib.hid (by simp [unH, h2])
                  clear h2
                  go_wp2_with fail
                  refine wp_region_held_drew (S := (fun V => Below W.heap.size W V ∧ V.ownsRow W.heap.size 97 3 (.slice A' lO.length c') lO.length (rc Po.cells lO))) (by kernel_rfl) (by exact ⟨hB.drew, own_below hown ((Below.refl _ _).drew)⟩) (fun hHeld => ?_)
                  refine tkZ (i := 0) (oi := ⟨some 37, _, _, _, _, _⟩) (v := ?_) rfl (by kernel_rfl) (fun _ _ _ h => h) (Or.inl ⟨by rfl, ?_⟩) hHeld ?_
                  rotate_left
                  · (intro w hSw; clear hSw; go_simp <;> with_reducible rfl)
                  try simp only [pqZ]
                  refine tkZ (i := 1) (oi := ⟨some 38, _, _, _, _, _⟩) (v := ?_) rfl (by kernel_rfl) (fun _ _ _ h => h) (Or.inl ⟨by rfl, ?_⟩) hHeld ?_
                  rotate_left
                  · (intro w hSw; clear hSw; go_simp <;> with_reducible rfl)
                  try simp only [pqZ]
                  refine tkZ (i := 2) (oi := ⟨some 39, _, _, _, _, _⟩) (v := ?_) rfl (by kernel_rfl) (fun _ _ _ h => h) (Or.inl ⟨by rfl, ?_⟩) hHeld ?_
                  rotate_left
                  · (intro w hSw; clear hSw; go_simp <;> with_reducible rfl)
                  try simp only [pqZ]
                  refine tkZ (i := 3) (oi := ⟨some 40, _, _, _, _, _⟩) (v := ?_) rfl (by kernel_rfl) (fun _ _ _ h => h) (Or.inl ⟨by rfl, ?_⟩) hHeld ?_
                  rotate_left
                  · (intro w hSw; clear hSw; go_simp <;> with_reducible rfl)
                  try simp only [pqZ]
                  refine tkZ (i := 4) (oi := ⟨some 41, _, _, _, _, _⟩) (v := ?_) rfl (by kernel_rfl) (fun _ _ _ h => h) (Or.inl ⟨by rfl, ?_⟩) hHeld ?_
                  rotate_left
                  · (intro w hSw; clear hSw; go_simp <;> with_reducible rfl)
                  try simp only [pqZ]
                  refine tkZ (i := 5) (oi := ⟨some 42, _, _, _, _, _⟩) (v := ?_) rfl (by kernel_rfl) (fun _ _ _ h => h) (Or.inl ⟨by rfl, ?_⟩) hHeld ?_
                  rotate_left
                  · (intro w hSw; clear hSw; go_simp <;> with_reducible rfl)
                  try simp only [pqZ]
                  refine tkZ (i := 6) (oi := ⟨some 43, _, _, _, _, _⟩) (v := ?_) rfl (by kernel_rfl) (fun _ _ _ h => h) (Or.inl ⟨by rfl, ?_⟩) hHeld ?_
                  rotate_left
                  · (intro w hSw; clear hSw; go_simp <;> with_reducible rfl)
                  try simp only [pqZ]
                  refine tkZ (i := 7) (oi := ⟨some 44, _, _, _, _, _⟩) (v := ?_) rfl (by kernel_rfl) (fun _ _ _ h => h) (Or.inl ⟨by rfl, ?_⟩) hHeld ?_
                  rotate_left
                  · (intro w hSw; obtain ⟨g0, g1, g2⟩ := HG.out _ (hSw).1; have ck := (HKW.out _ (hSw).1).2; have k0 := ck 0; have k1 := ck 1; simp at k0 k1; clear ck; go_simp <;> with_reducible rfl)
                  try simp only [pqZ]
                  refine tkZ (i := 8) (oi := ⟨some 45, _, _, _, _, _⟩) (v := ?_) rfl (by kernel_rfl) (fun _ _ _ h => h) (Or.inl ⟨by rfl, ?_⟩) hHeld ?_
                  rotate_left
                  · (intro w hSw; obtain ⟨g0, g1, g2⟩ := HG.out _ (hSw).1; have ck := (HKW.out _ (hSw).1).2; have k0 := ck 0; have k1 := ck 1; simp at k0 k1; clear ck; go_simp <;> with_reducible rfl)
                  try simp only [pqZ]
                  refine wpAnyH_ready (rs := [9]) (by kernel_rfl) (by simp) ?_
                  refine AllReadyH.cons (o := ⟨some 46, _, _, _, _, _⟩) rfl (fun K hK => ?_) AllReadyH.nil
                  go_simp
                  refine (r15less_any _ _ _ _ _).mono ?_
                  rintro e u1 ⟨rfl, hk1⟩
                  have hKeep := And.intro (since_step hHeld.1 hk1) (own_below hHeld.2 hk1)
                  rw [HL.out]
                  go_wp2_with fail
                  refine hK.out _ _ (by (try dsimp only); exact hKeep) (fun hHeld => ?_)
                  clear hK K hKeep
                  try simp only [pqZ]
                  refine tkZ (i := 10) (oi := ⟨some 47, _, _, _, _, _⟩) (v := ?_) rfl (by kernel_rfl) (fun _ _ _ h => h) (Or.inl ⟨by rfl, ?_⟩) hHeld ?_
                  rotate_left
                  · (intro w hSw; clear hSw; go_simp <;> with_reducible rfl)
                  try simp only [pqZ]
                  refine tkZ (i := 11) (oi := ⟨some 48, _, _, _, _, _⟩) (v := ?_) rfl (by kernel_rfl) (fun _ _ _ h => h) (Or.inl ⟨by rfl, ?_⟩) hHeld ?_
                  rotate_left
                  · (intro w hSw; clear hSw; go_simp <;> with_reducible rfl)
                  try simp only [pqZ]
                  refine wpAnyH_done (by kernel_rfl) ?_ _
                  obtain ⟨hB2, ho1⟩ := hHeld
                  have hsz := hB2.size
                  have ck := (HKW.out _ hB2).2; have k0 := ck 0; have k1 := ck 1; simp at k0 k1; clear ck
                  go_upto_region 14 with (first
                    | (at_builtin; refine wpList_app rfl (.tmp 49) (.tmp 53) rfl EPo rfl rfl (ho1.alloc _) (m := 1) (news := [.int .i64 va, .int .i64 c, .slice A2 RL.length c2]) rfl (Sl.new_ _ _ _) (Po.one ⟨va, c, A2, RL.length, c2⟩) (by unfold maxLen; omega) (by omega) (by have hz := hsz; (try simp only [World.size_alloc, World.size_drew] at hz ⊢); omega) ?_; intro A5 c5 w5 hown5 hg5 hb5)
                    | fail)
                  have hB8 := (since_alloc hB2 _).trans hb5
                  have ho8 := hown5
                  clear k0 k1
                  refine wp_region_held_drew (S := (fun V => Below W.heap.size W V ∧ V.ownsRow W.heap.size 97 3 (.slice A5 (lO.length + 1) c5) (lO.length + 1) (rc Po.cells lO ++ [.int .i64 va, .int .i64 c, .slice A2 RL.length c2]))) (by kernel_rfl) (by exact ⟨hB8.drew, own_below ho8 ((Below.refl _ _).drew)⟩) (fun hHeld => ?_)
                  refine tkZ (i := 0) (oi := ⟨some 55, _, _, _, _, _⟩) (v := ?_) rfl (by kernel_rfl) (fun _ _ _ h => h) (Or.inl ⟨by rfl, ?_⟩) hHeld ?_
                  rotate_left
                  · (intro w hSw; clear hSw; go_simp <;> with_reducible rfl)
                  try simp only [pqZ]
                  refine tkZ (i := 1) (oi := ⟨some 56, _, _, _, _, _⟩) (v := ?_) rfl (by kernel_rfl) (fun _ _ _ h => h) (Or.inl ⟨by rfl, ?_⟩) hHeld ?_
                  rotate_left
                  · (intro w hSw; clear hSw; go_simp <;> with_reducible rfl)
                  try simp only [pqZ]
                  refine tkZ (i := 2) (oi := ⟨some 57, _, _, _, _, _⟩) (v := ?_) rfl (by kernel_rfl) (fun _ _ _ h => h) (Or.inl ⟨by rfl, ?_⟩) hHeld ?_
                  rotate_left
                  · (intro w hSw; clear hSw; go_simp <;> with_reducible rfl)
                  try simp only [pqZ]
                  refine tkZ (i := 3) (oi := ⟨some 58, _, _, _, _, _⟩) (v := ?_) rfl (by kernel_rfl) (fun _ _ _ h => h) (Or.inl ⟨by rfl, ?_⟩) hHeld ?_
                  rotate_left
                  · (intro w hSw; clear hSw; go_simp <;> with_reducible rfl)
                  try simp only [pqZ]
                  refine tkZ (i := 4) (oi := ⟨some 59, _, _, _, _, _⟩) (v := ?_) rfl (by kernel_rfl) (fun _ _ _ h => h) (Or.inl ⟨by rfl, ?_⟩) hHeld ?_
                  rotate_left
                  · (intro w hSw; obtain ⟨g0, g1, g2⟩ := HG.out _ (hSw).1; have ck := (HKW.out _ (hSw).1).2; have k0 := ck 0; have k1 := ck 1; simp at k0 k1; clear ck; go_simp <;> with_reducible rfl)
                  try simp only [pqZ]
                  refine tkZ (i := 5) (oi := ⟨some 60, _, _, _, _, _⟩) (v := ?_) rfl (by kernel_rfl) (fun _ _ _ h => h) (Or.inl ⟨by rfl, ?_⟩) hHeld ?_
                  rotate_left
                  · (intro w hSw; obtain ⟨g0, g1, g2⟩ := HG.out _ (hSw).1; have ck := (HKW.out _ (hSw).1).2; have k0 := ck 0; have k1 := ck 1; simp at k0 k1; clear ck; go_simp <;> with_reducible rfl)
                  try simp only [pqZ]
                  refine tkZ (i := 6) (oi := ⟨some 61, _, _, _, _, _⟩) (v := ?_) rfl (by kernel_rfl) (fun _ _ _ h => h) (Or.inl ⟨by rfl, ?_⟩) hHeld ?_
                  rotate_left
                  · (intro w hSw; clear hSw; go_simp <;> with_reducible rfl)
                  try simp only [pqZ]
                  refine wpAnyH_done (by kernel_rfl) ?_ _
                  obtain ⟨hB9, ho9⟩ := hHeld
                  have hsz9 := hB9.size
                  obtain ⟨g0, g1, g2⟩ := HG.out _ hB9
                  go_wp2_with (first
                    | (at_builtin; refine wpList_app rfl (.tmp 62) (.tmp 67) rfl EPo rfl rfl (ho9.alloc _) (m := 1) (news := [.int .i64 va, .int .i64 vc, .slice vt dL.length vC]) rfl (Sl.new_ _ _ _) (Po.one ⟨va, vc, vt, dL.length, vC⟩) (by unfold maxLen; omega) (by omega) (by have hz := hsz9; (try simp only [World.size_alloc, World.size_drew] at hz ⊢); omega) ?_; intro A6 c6 w6 hown6 hg6 hb6)
                    | fail)
                  have hBz := (since_alloc hB9 _).trans hb6
                  have hoz := hown6
                  go_roundw
                  case rel =>
                    refine ⟨k + 1, true, (lO ++ [⟨va, c, A2, RL.length, c2⟩, ⟨va, vc, vt, dL.length, vC⟩]), (O ++ [⟨va, c, RL⟩, ⟨va, vc, dL⟩]), A6, c6, by omega, by go_num, rfl, by first | rfl | (simp; done), by simp only [List.length_append, List.length_cons, List.length_nil, Bool.toNat_true, Bool.toNat_false]; omega, ?_, ?_, (htO.append (PoTab.cons.2 ⟨⟨rfl, rfl, rfl, HS2.out⟩, PoTab.cons.2 ⟨⟨rfl, rfl, rfl, HSV.out⟩, PoTab.nil _⟩⟩)), hBz⟩
                    · have h := HI.out
                      simpa [HL0.out, HU0.out, List.append_assoc] using h
                    · simpa [rc, Po.cells, List.append_assoc] using hoz
                  case measure => simp [intOf]; omega
              · have h1b : (va == a) = false := by simpa using h1
                have HU0 : Hid (unH a c ⟨va, vc, dL⟩ = false) := Lib.hid (by simp [unH, h1])
                clear h1
                go_wp2_with fail
                refine wp_region_held_drew (S := (fun V => Below W.heap.size W V ∧ V.ownsRow W.heap.size 97 3 (.slice A' lO.length c') lO.length (rc Po.cells lO))) (by kernel_rfl) (by exact ⟨hB.drew, own_below hown ((Below.refl _ _).drew)⟩) (fun hHeld => ?_)
                refine tkZ (i := 0) (oi := ⟨some 37, _, _, _, _, _⟩) (v := ?_) rfl (by kernel_rfl) (fun _ _ _ h => h) (Or.inl ⟨by rfl, ?_⟩) hHeld ?_
                rotate_left
                · (intro w hSw; clear hSw; go_simp <;> with_reducible rfl)
                try simp only [pqZ]
                refine tkZ (i := 1) (oi := ⟨some 38, _, _, _, _, _⟩) (v := ?_) rfl (by kernel_rfl) (fun _ _ _ h => h) (Or.inl ⟨by rfl, ?_⟩) hHeld ?_
                rotate_left
                · (intro w hSw; clear hSw; go_simp <;> with_reducible rfl)
                try simp only [pqZ]
                refine tkZ (i := 2) (oi := ⟨some 39, _, _, _, _, _⟩) (v := ?_) rfl (by kernel_rfl) (fun _ _ _ h => h) (Or.inl ⟨by rfl, ?_⟩) hHeld ?_
                rotate_left
                · (intro w hSw; clear hSw; go_simp <;> with_reducible rfl)
                try simp only [pqZ]
                refine tkZ (i := 3) (oi := ⟨some 40, _, _, _, _, _⟩) (v := ?_) rfl (by kernel_rfl) (fun _ _ _ h => h) (Or.inl ⟨by rfl, ?_⟩) hHeld ?_
                rotate_left
                · (intro w hSw; clear hSw; go_simp <;> with_reducible rfl)
                try simp only [pqZ]
                refine tkZ (i := 4) (oi := ⟨some 41, _, _, _, _, _⟩) (v := ?_) rfl (by kernel_rfl) (fun _ _ _ h => h) (Or.inl ⟨by rfl, ?_⟩) hHeld ?_
                rotate_left
                · (intro w hSw; clear hSw; go_simp <;> with_reducible rfl)
                try simp only [pqZ]
                refine tkZ (i := 5) (oi := ⟨some 42, _, _, _, _, _⟩) (v := ?_) rfl (by kernel_rfl) (fun _ _ _ h => h) (Or.inl ⟨by rfl, ?_⟩) hHeld ?_
                rotate_left
                · (intro w hSw; clear hSw; go_simp <;> with_reducible rfl)
                try simp only [pqZ]
                refine tkZ (i := 6) (oi := ⟨some 43, _, _, _, _, _⟩) (v := ?_) rfl (by kernel_rfl) (fun _ _ _ h => h) (Or.inl ⟨by rfl, ?_⟩) hHeld ?_
                rotate_left
                · (intro w hSw; clear hSw; go_simp <;> with_reducible rfl)
                try simp only [pqZ]
                refine tkZ (i := 7) (oi := ⟨some 44, _, _, _, _, _⟩) (v := ?_) rfl (by kernel_rfl) (fun _ _ _ h => h) (Or.inl ⟨by rfl, ?_⟩) hHeld ?_
                rotate_left
                · (intro w hSw; obtain ⟨g0, g1, g2⟩ := HG.out _ (hSw).1; have ck := (HKW.out _ (hSw).1).2; have k0 := ck 0; have k1 := ck 1; simp at k0 k1; clear ck; go_simp <;> with_reducible rfl)
                try simp only [pqZ]
                refine tkZ (i := 8) (oi := ⟨some 45, _, _, _, _, _⟩) (v := ?_) rfl (by kernel_rfl) (fun _ _ _ h => h) (Or.inl ⟨by rfl, ?_⟩) hHeld ?_
                rotate_left
                · (intro w hSw; obtain ⟨g0, g1, g2⟩ := HG.out _ (hSw).1; have ck := (HKW.out _ (hSw).1).2; have k0 := ck 0; have k1 := ck 1; simp at k0 k1; clear ck; go_simp <;> with_reducible rfl)
                try simp only [pqZ]
                refine wpAnyH_ready (rs := [9]) (by kernel_rfl) (by simp) ?_
                refine AllReadyH.cons (o := ⟨some 46, _, _, _, _, _⟩) rfl (fun K hK => ?_) AllReadyH.nil
                go_simp
                refine (r15less_any _ _ _ _ _).mono ?_
                rintro e u1 ⟨rfl, hk1⟩
                have hKeep := And.intro (since_step hHeld.1 hk1) (own_below hHeld.2 hk1)
                rw [HL.out]
                go_wp2_with fail
                refine hK.out _ _ (by (try dsimp only); exact hKeep) (fun hHeld => ?_)
                clear hK K hKeep
                try simp only [pqZ]
                refine tkZ (i := 10) (oi := ⟨some 47, _, _, _, _, _⟩) (v := ?_) rfl (by kernel_rfl) (fun _ _ _ h => h) (Or.inl ⟨by rfl, ?_⟩) hHeld ?_
                rotate_left
                · (intro w hSw; clear hSw; go_simp <;> with_reducible rfl)
                try simp only [pqZ]
                refine tkZ (i := 11) (oi := ⟨some 48, _, _, _, _, _⟩) (v := ?_) rfl (by kernel_rfl) (fun _ _ _ h => h) (Or.inl ⟨by rfl, ?_⟩) hHeld ?_
                rotate_left
                · (intro w hSw; clear hSw; go_simp <;> with_reducible rfl)
                try simp only [pqZ]
                refine wpAnyH_done (by kernel_rfl) ?_ _
                obtain ⟨hB2, ho1⟩ := hHeld
                have hsz := hB2.size
                have ck := (HKW.out _ hB2).2; have k0 := ck 0; have k1 := ck 1; simp at k0 k1; clear ck
                go_upto_region 14 with (first
                  | (at_builtin; refine wpList_app rfl (.tmp 49) (.tmp 53) rfl EPo rfl rfl (ho1.alloc _) (m := 1) (news := [.int .i64 a, .int .i64 c, .slice A2 RL.length c2]) rfl (Sl.new_ _ _ _) (Po.one ⟨a, c, A2, RL.length, c2⟩) (by unfold maxLen; omega) (by omega) (by have hz := hsz; (try simp only [World.size_alloc, World.size_drew] at hz ⊢); omega) ?_; intro A5 c5 w5 hown5 hg5 hb5)
                  | fail)
                have hB8 := (since_alloc hB2 _).trans hb5
                have ho8 := hown5
                clear k0 k1
                refine wp_region_held_drew (S := (fun V => Below W.heap.size W V ∧ V.ownsRow W.heap.size 97 3 (.slice A5 (lO.length + 1) c5) (lO.length + 1) (rc Po.cells lO ++ [.int .i64 a, .int .i64 c, .slice A2 RL.length c2]))) (by kernel_rfl) (by exact ⟨hB8.drew, own_below ho8 ((Below.refl _ _).drew)⟩) (fun hHeld => ?_)
                refine tkZ (i := 0) (oi := ⟨some 55, _, _, _, _, _⟩) (v := ?_) rfl (by kernel_rfl) (fun _ _ _ h => h) (Or.inl ⟨by rfl, ?_⟩) hHeld ?_
                rotate_left
                · (intro w hSw; clear hSw; go_simp <;> with_reducible rfl)
                try simp only [pqZ]
                refine tkZ (i := 1) (oi := ⟨some 56, _, _, _, _, _⟩) (v := ?_) rfl (by kernel_rfl) (fun _ _ _ h => h) (Or.inl ⟨by rfl, ?_⟩) hHeld ?_
                rotate_left
                · (intro w hSw; clear hSw; go_simp <;> with_reducible rfl)
                try simp only [pqZ]
                refine tkZ (i := 2) (oi := ⟨some 57, _, _, _, _, _⟩) (v := ?_) rfl (by kernel_rfl) (fun _ _ _ h => h) (Or.inl ⟨by rfl, ?_⟩) hHeld ?_
                rotate_left
                · (intro w hSw; clear hSw; go_simp <;> with_reducible rfl)
                try simp only [pqZ]
                refine tkZ (i := 3) (oi := ⟨some 58, _, _, _, _, _⟩) (v := ?_) rfl (by kernel_rfl) (fun _ _ _ h => h) (Or.inl ⟨by rfl, ?_⟩) hHeld ?_
                rotate_left
                · (intro w hSw; clear hSw; go_simp <;> with_reducible rfl)
                try simp only [pqZ]
                refine tkZ (i := 4) (oi := ⟨some 59, _, _, _, _, _⟩) (v := ?_) rfl (by kernel_rfl) (fun _ _ _ h => h) (Or.inl ⟨by rfl, ?_⟩) hHeld ?_
                rotate_left
                · (intro w hSw; obtain ⟨g0, g1, g2⟩ := HG.out _ (hSw).1; have ck := (HKW.out _ (hSw).1).2; have k0 := ck 0; have k1 := ck 1; simp at k0 k1; clear ck; go_simp <;> with_reducible rfl)
                try simp only [pqZ]
                refine tkZ (i := 5) (oi := ⟨some 60, _, _, _, _, _⟩) (v := ?_) rfl (by kernel_rfl) (fun _ _ _ h => h) (Or.inl ⟨by rfl, ?_⟩) hHeld ?_
                rotate_left
                · (intro w hSw; obtain ⟨g0, g1, g2⟩ := HG.out _ (hSw).1; have ck := (HKW.out _ (hSw).1).2; have k0 := ck 0; have k1 := ck 1; simp at k0 k1; clear ck; go_simp <;> with_reducible rfl)
                try simp only [pqZ]
                refine tkZ (i := 6) (oi := ⟨some 61, _, _, _, _, _⟩) (v := ?_) rfl (by kernel_rfl) (fun _ _ _ h => h) (Or.inl ⟨by rfl, ?_⟩) hHeld ?_
                rotate_left
                · (intro w hSw; clear hSw; go_simp <;> with_reducible rfl)
                try simp only [pqZ]
                refine wpAnyH_done (by kernel_rfl) ?_ _
                obtain ⟨hB9, ho9⟩ := hHeld
                have hsz9 := hB9.size
                obtain ⟨g0, g1, g2⟩ := HG.out _ hB9
                go_wp2_with (first
                  | (at_builtin; refine wpList_app rfl (.tmp 62) (.tmp 67) rfl EPo rfl rfl (ho9.alloc _) (m := 1) (news := [.int .i64 va, .int .i64 vc, .slice vt dL.length vC]) rfl (Sl.new_ _ _ _) (Po.one ⟨va, vc, vt, dL.length, vC⟩) (by unfold maxLen; omega) (by omega) (by have hz := hsz9; (try simp only [World.size_alloc, World.size_drew] at hz ⊢); omega) ?_; intro A6 c6 w6 hown6 hg6 hb6)
                  | fail)
                have hBz := (since_alloc hB9 _).trans hb6
                have hoz := hown6
                go_roundw
                case rel =>
                  refine ⟨k + 1, true, (lO ++ [⟨a, c, A2, RL.length, c2⟩, ⟨va, vc, vt, dL.length, vC⟩]), (O ++ [⟨a, c, RL⟩, ⟨va, vc, dL⟩]), A6, c6, by omega, by go_num, rfl, by first | rfl | (simp; done), by simp only [List.length_append, List.length_cons, List.length_nil, Bool.toNat_true, Bool.toNat_false]; omega, ?_, ?_, (htO.append (PoTab.cons.2 ⟨⟨rfl, rfl, rfl, HS2.out⟩, PoTab.cons.2 ⟨⟨rfl, rfl, rfl, HSV.out⟩, PoTab.nil _⟩⟩)), hBz⟩
                  · have h := HI.out
                    simpa [HL0.out, HU0.out, List.append_assoc] using h
                  · simpa [rc, Po.cells, List.append_assoc] using hoz
                case measure => simp [intOf]; omega
        · obtain rfl : k = l.length := by omega
          rw [HLC.out, List.drop_length] at hI
          have HI := Lib.hid hI
          clear hI
          cases d with
          | true =>
            have hlO : lO.length ≤ l.length + 1 := hlO
            go_wp2_with fail
            go_ret2
            rw [HR.out]
            refine ⟨⟨lO, A', c', rfl, Sl.of_own hown, ?_, CapH.of_own hown⟩, hB3.trans (hB.mono hWs)⟩
            have h := HI.out
            simp [goH] at h
            rw [← h]
            exact htO.below hB
          | false =>
            have hlO : lO.length ≤ l.length := hlO
            have ck := (HKW.out _ hB).2; have k0 := ck 0; have k1 := ck 1; simp at k0 k1; clear ck
            have hszr := hB.size
            go_wp2_with (first
              | (at_builtin; refine wpList_app rfl (.tmp 71) (.tmp 75) rfl EPo rfl rfl (hown.alloc _) (m := 1) (news := [.int .i64 a, .int .i64 c, .slice A2 RL.length c2]) rfl (Sl.new_ _ _ _) (Po.one ⟨a, c, A2, RL.length, c2⟩) (by unfold maxLen; omega) (by omega) (by simp only [World.size_alloc]; omega) ?_; intro A6 c6 w6 hown6 hg6 hb6)
              | fail)
            have hBz := (since_alloc hB _).trans hb6
            have hel : (lO ++ [(⟨a, c, A2, RL.length, c2⟩ : Po)]).length = lO.length + 1 := by simp
            go_ret2
            rw [HR.out]
            refine ⟨⟨lO ++ [⟨a, c, A2, RL.length, c2⟩], A6, c6, by rw [hel]; rfl, ?_, ?_, by rw [hel]; exact CapH.of_own hown6⟩, hB3.trans (hBz.mono hWs)⟩
            · have h := Sl.of_own hown6
              rw [rc_append]
              simpa [rc, Po.cells] using h
            · have h := HI.out
              simp [goH] at h
              simp only [← h]
              exact (htO.append (PoTab.cons.2 ⟨⟨rfl, rfl, rfl, HS2.out⟩, PoTab.nil _⟩)).below hBz
end Go.Proofs.YtahdmomadbbhoaaGreat
end
