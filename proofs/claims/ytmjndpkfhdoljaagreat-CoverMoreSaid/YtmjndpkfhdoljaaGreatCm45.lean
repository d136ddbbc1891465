import Derived.Test.YtmjndpkfhdoljaaGreatCm44
set_option maxHeartbeats 16000000
set_option maxRecDepth 100000
set_option linter.unusedVariables false
set_option linter.unusedSimpArgs false
namespace Go.Proofs.YtmjndpkfhdoljaaGreat
open Go.ChangeShapes Go.WideShapes Go.ChangeAt Go.RowKit
section
theorem own_leP {w : World} {base e size n c : Nat} {A : Option Addr} {xs : List Value} (h : w.ownsRow base e size (.slice A n c) n xs) : n ≤ c ∧ c ≤ maxLen := by
  rcases h.2 with ⟨hv, h0⟩ | ⟨g, cap, cur, hv, hg, hh, hnc, hcm, _⟩
  · injection hv with e1 e2 e3; subst e3; subst h0; exact ⟨Nat.le_refl _, by decide⟩
  · injection hv with e1 e2 e3; subst e3; exact ⟨hnc, hcm⟩
structure AtIs (u : Un) (US : List Un) (k a : Nat) : Prop where
  le : a ≤ k
  low : ∀ i, (hi : i < US.length) → i < a → ahUn US[i] u = true
  high : ∀ i, (hi : i < US.length) → a ≤ i → i < k → ahUn US[i] u = false
def hasP (u : Un) (US : List Un) (k : Nat) : Bool := (US.take k).any fun v => v.ac == u.ac && v.cl == u.cl
theorem hasP_succ (u : Un) (US : List Un) (k : Nat) (h : k < US.length) : hasP u US (k + 1) = (hasP u US k || (US[k].ac == u.ac && US[k].cl == u.cl)) := by
  unfold hasP
  rw [take_snoc US k h, List.any_append]
  simp
theorem AtIs.start (u : Un) (US : List Un) : AtIs u US 0 0 := ⟨Nat.le_refl _, fun i _ h => absurd h (by omega), fun i _ _ h => absurd h (by omega)⟩
theorem AtIs.yes {u : Un} {US : List Un} {k a : Nat} (h : AtIs u US k a) (hs : US.Pairwise (fun a b => ahUn a b = true)) (hk : k < US.length) (hl : ahUn US[k] u = true) : AtIs u US (k + 1) (k + 1) := by
  refine ⟨Nat.le_refl _, fun i hi hik => ?_, fun i hi h1 h2 => absurd h2 (by omega)⟩
  rcases Nat.lt_or_ge i k with h1 | h1
  · exact ordUn.tr _ _ _ (List.pairwise_iff_getElem.1 hs i k hi hk h1) hl
  · obtain rfl : i = k := by omega
    exact hl
theorem AtIs.no {u : Un} {US : List Un} {k a : Nat} (h : AtIs u US k a) (hl : ∀ hk : k < US.length, ahUn US[k] u = false) : AtIs u US (k + 1) a := by
  have := h.le
  refine ⟨by omega, h.low, fun i hi h1 h2 => ?_⟩
  rcases Nat.lt_or_ge i k with h3 | h3
  · exact h.high i hi h1 h3
  · obtain rfl : i = k := by omega
    exact hl hi
theorem put_at {u : Un} : ∀ (US : List Un) (a : Nat), a ≤ US.length → (∀ i, (hi : i < US.length) → i < a → ahUn US[i] u = true) → (∀ i, (hi : i < US.length) → a ≤ i → ahUn US[i] u = false ∧ ahUn u US[i] = true) → putR ahUn US u = US.take a ++ u :: US.drop a
  | [], a, h, _, _ => by simp [putR]
  | x :: r, 0, _, _, h2 => by
    have := h2 0 (by simp) (by omega)
    simp only [List.getElem_cons_zero] at this
    simp [putR, this.1, this.2]
  | x :: r, a + 1, h, h1, h2 => by
    have h0 := h1 0 (by simp) (by omega)
    simp only [List.getElem_cons_zero] at h0
    have ih := put_at r a (by simpa using h) (fun i hi hia => by have := h1 (i + 1) (by simpa using hi) (by omega); simpa using this) (fun i hi hia => by have := h2 (i + 1) (by simpa using hi) (by omega); simpa using this)
    simp [putR, h0, ih]
theorem unitsU_snoc (l : List Fw) (k : Nat) (h : k < l.length) : unitsU (l.take (k + 1)) = putR ahUn (unitsU (l.take k)) ⟨l[k].ac, l[k].cl⟩ := by
  unfold unitsU
  rw [take_snoc l k h, List.foldl_append]
  rfl
theorem hasP_mem {u : Un} {US : List Un} : hasP u US US.length = true ↔ u ∈ US := by
  unfold hasP
  rw [List.take_length, List.any_eq_true]
  constructor
  · rintro ⟨v, hv, h⟩
    simp at h
    cases u; cases v
    simp only at h
    obtain ⟨rfl, rfl⟩ := h
    exact hv
  · intro h
    exact ⟨u, h, by simp⟩
theorem put_there {u : Un} : ∀ {US : List Un}, US.Pairwise (fun a b => ahUn a b = true) → u ∈ US → putR ahUn US u = US := fun {US} hs h =>
  sorted_ext ordUn _ _ (pairwise_putR ordUn u US hs) hs fun x => by
    rw [mem_putUn]
    constructor
    · rintro (rfl | h1)
      · exact h
      · exact h1
    · exact .inr
theorem put_new {u : Un} {US : List Un} {a : Nat} (hs : US.Pairwise (fun a b => ahUn a b = true)) (h : AtIs u US US.length a) (hn : hasP u US US.length = false) : putR ahUn US u = US.take a ++ u :: US.drop a := by
  refine put_at US a h.le h.low fun i hi hia => ?_
  have h1 := h.high i hi hia hi
  refine ⟨h1, ?_⟩
  have hne : US[i] ≠ u := fun e => by
    have : hasP u US US.length = true := hasP_mem.2 (by rw [← e]; exact List.getElem_mem hi)
    rw [hn] at this; cases this
  simp only [ahUn, keyLt_not, keyLt_iff] at h1 ⊢
  have : ¬ (US[i].ac = u.ac ∧ US[i].cl = u.cl) := fun ⟨e1, e2⟩ => hne (by cases hx : US[i]; cases u; rw [hx] at e1 e2; simp only at e1 e2; rw [e1, e2])
  omega
theorem unitsU_len (l : List Fw) : (unitsU l).length ≤ l.length := by
  have key : ∀ (l : List Fw) (us : List Un), (l.foldl (fun us x => putR ahUn us ⟨x.ac, x.cl⟩) us).length ≤ us.length + l.length := by
    intro l
    induction l with
    | nil => intro us; simp
    | cons a r ih =>
      intro us
      have h1 := ih (putR ahUn us ⟨a.ac, a.cl⟩)
      have h2 := length_putR (ah := ahUn) ⟨a.ac, a.cl⟩ us
      simp only [List.foldl_cons, List.length_cons]
      omega
  have := key l []
  simpa [unitsU] using this
theorem Sl.dropU {w : World} {b o : Nat} {xs : List Value} (h : Sl w (some ⟨b, o, none⟩) xs) (n : Nat) : Sl w (some ⟨b, o + n, none⟩) (xs.drop n) := by
  intro hne
  obtain ⟨b', o', e, hc⟩ := h (by rintro rfl; simp at hne)
  injection e with e; injection e with e1 e2; subst e1; subst e2
  refine ⟨b, o + n, rfl, fun j u hu => ?_⟩
  rw [List.getElem?_drop] at hu
  rw [Nat.add_assoc]
  exact hc _ _ hu
theorem runits_any_PurQ6 (A : Option Addr) (cap : Nat) (l : List Fw) (w : World) (hl : l.length ≤ 100000) (hs : Sl w A (rc Fw.cells l)) :
  Calls Tryz.prog 34 #[.slice A l.length cap] w fun e w' => (∃ A' c', e = .returned (.slice A' (unitsU l).length c') ∧ w'.ownsRow w.heap.size 41 2 (.slice A' (unitsU l).length c') (unitsU l).length (rc Un.cells (unitsU l))) ∧ Below w.heap.size w w' := by
 go_enter Tryz.func34, Tryz.ntmps34
 go_wp2_with fail
 go_loopw [3, 4] (fun ov iv wr => ∃ (k : Nat) (A' : Option Addr) (c' : Nat), k ≤ l.length ∧ iv = .int .i64 k ∧ ov = .slice A' (unitsU (l.take k)).length c' ∧ wr.ownsRow w.heap.size 41 2 (.slice A' (unitsU (l.take k)).length c') (unitsU (l.take k)).length (rc Un.cells (unitsU (l.take k))) ∧ Below w.heap.size w wr) (fun _ iv _ => l.length - (intOf iv).toNat)
 case atStart => exact ⟨0, none, 0, by omega, rfl, rfl, own_nil _ _ _, Below.refl _ _⟩
 case round =>
  obtain ⟨k, A', c', hk, rfl, rfl, hO, hB⟩ := hrel
  have HUL := Lib.hid (unitsU_len (l.take k))
  by_cases hlt : k < l.length
  ·obtain ⟨bb, oo, rfl, hbw, hg⟩ := (hs.below hB).fw hlt
   have hlk : (k : Int) < (l.length : Int) := by omega
   have hgk : (0 : Int) ≤ (k : Int) := by omega
   have hks : IntKind.i64.wrap ((k : Int) + 1) = (k : Int) + 1 := IntWalk.i64_in _ (by omega)
   have HSN := Lib.hid (unitsU_snoc l k hlt)
   have HSD := Lib.hid (unitsU_sorted (l.take k))
   obtain ⟨US, hUS⟩ : ∃ US, unitsU (l.take k) = US := ⟨_, rfl⟩
   rw [hUS] at hO HSN HSD HUL ⊢
   have hul : US.length ≤ 100000 := by have := HUL.out; rw [List.length_take] at this; omega
   clear hUS
   generalize l[k] = v at *
   obtain ⟨va, vc, vq⟩ := v
   obtain ⟨g0, g1, g2⟩ := hg
   simp only at g0 g1 g2
   have HSN := Lib.hid (show unitsU (l.take (k + 1)) = putR ahUn US ⟨va, vc⟩ from HSN.out)
   have hB5 := since_alloc hB (.cells #[.int .i64 va, .int .i64 vc] 41)
   have hO5 := hO.alloc (.cells #[.int .i64 va, .int .i64 vc] 41)
   have hX5 := Bk.new wr #[.int .i64 va, .int .i64 vc] 41
   go_upto_region 6 with fail
   generalize hwx : wr.heap.size = xb at *
   generalize hw5 : wr.alloc (.cells #[.int .i64 va, .int .i64 vc] 41) = w5 at *
   clear hwx hw5 hB hO g0 g1 g2 hbw
   go_wp2_with fail
   go_loopw [6, 7, 8] (fun av tv jv wi => ∃ (j a : Nat), j ≤ US.length ∧ jv = .int .i64 j ∧ AtIs ⟨va, vc⟩ US j a ∧ av = .int .i64 a ∧ tv = .bool (hasP ⟨va, vc⟩ US j) ∧ Below w5.heap.size w5 wi) (fun _ _ jv _ => US.length - (intOf jv).toNat)
   case atStart => exact ⟨0, 0, by omega, rfl, AtIs.start _ _, rfl, rfl, Below.refl _ _⟩
   case round =>
    obtain ⟨j, a, hj, rfl, hat, rfl, rfl, hBi⟩ := hrel
    have HAT := Lib.hid hat
    clear hat
    by_cases hjl : j < US.length
    ·obtain ⟨b2, o2, hA2, hb2w, hg2⟩ := (Sl.of_own (own_below hO5 hBi)).un hjl
     have hjk : (j : Int) < (US.length : Int) := by omega
     have hj0 : (0 : Int) ≤ (j : Int) := by omega
     have hjs : IntKind.i64.wrap ((j : Int) + 1) = (j : Int) + 1 := IntWalk.i64_in _ (by omega)
     have HP := Lib.hid (hasP_succ ⟨va, vc⟩ US j hjl)
     have HG : Hid (∀ V, Below wr.heap.size wr V → US[j].at V b2 (o2 + j * 2) ∧ Bk V xb #[.int .i64 va, .int .i64 vc]) := Lib.hid fun V hV => ⟨Un.at_keep hg2 fun i => hV.cell (p := ⟨b2, i, none⟩) hb2w, (hX5.below hBi).below hV⟩
     subst hA2
     generalize wr = wi at *
     cases ht : hasP ⟨va, vc⟩ US j with
     | true =>
      rw [ht] at HP
      simp only [Bool.true_or] at HP
      cases hah : ahUn US[j] ⟨va, vc⟩ with
      | true =>
       have HL := Lib.hid hah
       have HA := Lib.hid (HAT.out.yes HSD.out hjl hah)
       clear hah ht
       generalize US[j] = y at *
       obtain ⟨ya, yc⟩ := y
       unfold Un.at at HG
       unfold ahUn at HL
       simp only at HG HL HP
       go_wp2_with fail
       refine wp_region_held_drew (S := (fun V => Below wi.heap.size wi V)) (by kernel_rfl) (by exact (Below.refl _ _).drew) (fun hHeld => ?_)
       refine tkI 0 27 rfl (by intro w hSw; obtain ⟨⟨g0, g1⟩, lk, ck⟩ := HG.out _ hSw; have k0 := ck 0; have k1 := ck 1; simp at k0 k1; clear ck; go_simp <;> with_reducible rfl) hHeld ?_; simp only [pqZ]
       refine tkI 1 28 rfl (by intro w hSw; obtain ⟨⟨g0, g1⟩, lk, ck⟩ := HG.out _ hSw; have k0 := ck 0; have k1 := ck 1; simp at k0 k1; clear ck; go_simp <;> with_reducible rfl) hHeld ?_; simp only [pqZ]
       refine tkO 2 29 rfl (by kernel_rfl) (by rfl) hHeld ?_; simp only [pqZ]
       refine tkO 3 30 rfl (by kernel_rfl) (by rfl) hHeld ?_; simp only [pqZ]
       refine tkO 4 31 rfl (by kernel_rfl) (by rfl) hHeld ?_; simp only [pqZ]
       refine tkO 5 32 rfl (by kernel_rfl) (by rfl) hHeld ?_; simp only [pqZ]
       refine tkO 6 33 rfl (by kernel_rfl) (by rfl) hHeld ?_; simp only [pqZ]
       refine tkO 7 34 rfl (by kernel_rfl) (by rfl) hHeld ?_; simp only [pqZ]
       refine tkI 8 35 rfl (by intro w hSw; obtain ⟨⟨g0, g1⟩, lk, ck⟩ := HG.out _ hSw; have k0 := ck 0; have k1 := ck 1; simp at k0 k1; clear ck; go_simp <;> with_reducible rfl) hHeld ?_; simp only [pqZ]
       refine tkI 9 7 rfl (by intro w hSw; obtain ⟨⟨g0, g1⟩, lk, ck⟩ := HG.out _ hSw; have k0 := ck 0; have k1 := ck 1; simp at k0 k1; clear ck; go_simp <;> with_reducible rfl) hHeld ?_; simp only [pqZ]
       refine wpAnyH_done (by kernel_rfl) ?_ _
       have hHeld0 := hHeld
       generalize hwx : wi.drew = wx at *
       clear hwx hHeld
       go_wp2_with fail
       refine wp_region_held_drew (S := (fun V => Below wx.heap.size wx V)) (by kernel_rfl) (by exact (Below.refl _ _).drew) (fun hHeld => ?_)
       refine tkI 0 36 rfl (by intro w hSw; obtain ⟨⟨g0, g1⟩, lk, ck⟩ := HG.out _ (hHeld0.trans (hSw.mono hHeld0.size)); have k0 := ck 0; have k1 := ck 1; simp at k0 k1; clear ck; go_simp <;> with_reducible rfl) hHeld ?_; simp only [pqZ]
       refine tkI 1 37 rfl (by intro w hSw; obtain ⟨⟨g0, g1⟩, lk, ck⟩ := HG.out _ (hHeld0.trans (hSw.mono hHeld0.size)); have k0 := ck 0; have k1 := ck 1; simp at k0 k1; clear ck; go_simp <;> with_reducible rfl) hHeld ?_; simp only [pqZ]
       refine tkI 2 38 rfl (by intro w hSw; obtain ⟨⟨g0, g1⟩, lk, ck⟩ := HG.out _ (hHeld0.trans (hSw.mono hHeld0.size)); have k0 := ck 0; have k1 := ck 1; simp at k0 k1; clear ck; go_simp <;> with_reducible rfl) hHeld ?_; simp only [pqZ]
       refine tkI 3 39 rfl (by intro w hSw; obtain ⟨⟨g0, g1⟩, lk, ck⟩ := HG.out _ (hHeld0.trans (hSw.mono hHeld0.size)); have k0 := ck 0; have k1 := ck 1; simp at k0 k1; clear ck; go_simp <;> with_reducible rfl) hHeld ?_; simp only [pqZ]
       refine tkI 4 40 rfl (by intro w hSw; obtain ⟨⟨g0, g1⟩, lk, ck⟩ := HG.out _ (hHeld0.trans (hSw.mono hHeld0.size)); have k0 := ck 0; have k1 := ck 1; simp at k0 k1; clear ck; go_simp <;> with_reducible rfl) hHeld ?_; simp only [pqZ]
       refine rdZ 5 41 rfl (by kernel_rfl) (fun K hK => ?_)
       go_simp
       refine (r15less_any _ _ _ _ _).mono ?_
       rintro e u1 ⟨rfl, hk1⟩
       have hKeep := since_step hHeld hk1
       rw [HL.out]
       go_wp2_with fail
       refine hK.out _ _ (by (try dsimp only); exact hKeep) (fun hHeld => ?_); clear hK K hKeep; try simp only [pqZ]
       refine wpAnyH_done (by kernel_rfl) ?_ _
       have hB3 := hBi.trans ((hHeld0.trans (hHeld.mono hHeld0.size)).mono hBi.size)
       go_wp2_with fail
       go_roundw
       case rel => exact ⟨j + 1, j + 1, by omega, by go_num, HA.out, by go_num, by rw [HP.out], hB3⟩
       case measure => simp [intOf]; omega
      | false =>
       have HL := Lib.hid hah
       have HA := Lib.hid (HAT.out.no fun _ => hah)
       clear hah ht
       generalize US[j] = y at *
       obtain ⟨ya, yc⟩ := y
       unfold Un.at at HG
       unfold ahUn at HL
       simp only at HG HL HP
       go_wp2_with fail
       refine wp_region_held_drew (S := (fun V => Below wi.heap.size wi V)) (by kernel_rfl) (by exact (Below.refl _ _).drew) (fun hHeld => ?_)
       refine tkI 0 27 rfl (by intro w hSw; obtain ⟨⟨g0, g1⟩, lk, ck⟩ := HG.out _ hSw; have k0 := ck 0; have k1 := ck 1; simp at k0 k1; clear ck; go_simp <;> with_reducible rfl) hHeld ?_; simp only [pqZ]
       refine tkI 1 28 rfl (by intro w hSw; obtain ⟨⟨g0, g1⟩, lk, ck⟩ := HG.out _ hSw; have k0 := ck 0; have k1 := ck 1; simp at k0 k1; clear ck; go_simp <;> with_reducible rfl) hHeld ?_; simp only [pqZ]
       refine tkO 2 29 rfl (by kernel_rfl) (by rfl) hHeld ?_; simp only [pqZ]
       refine tkO 3 30 rfl (by kernel_rfl) (by rfl) hHeld ?_; simp only [pqZ]
       refine tkO 4 31 rfl (by kernel_rfl) (by rfl) hHeld ?_; simp only [pqZ]
       refine tkO 5 32 rfl (by kernel_rfl) (by rfl) hHeld ?_; simp only [pqZ]
       refine tkO 6 33 rfl (by kernel_rfl) (by rfl) hHeld ?_; simp only [pqZ]
       refine tkO 7 34 rfl (by kernel_rfl) (by rfl) hHeld ?_; simp only [pqZ]
       refine tkI 8 35 rfl (by intro w hSw; obtain ⟨⟨g0, g1⟩, lk, ck⟩ := HG.out _ hSw; have k0 := ck 0; have k1 := ck 1; simp at k0 k1; clear ck; go_simp <;> with_reducible rfl) hHeld ?_; simp only [pqZ]
       refine tkI 9 7 rfl (by intro w hSw; obtain ⟨⟨g0, g1⟩, lk, ck⟩ := HG.out _ hSw; have k0 := ck 0; have k1 := ck 1; simp at k0 k1; clear ck; go_simp <;> with_reducible rfl) hHeld ?_; simp only [pqZ]
       refine wpAnyH_done (by kernel_rfl) ?_ _
       have hHeld0 := hHeld
       generalize hwx : wi.drew = wx at *
       clear hwx hHeld
       go_wp2_with fail
       refine wp_region_held_drew (S := (fun V => Below wx.heap.size wx V)) (by kernel_rfl) (by exact (Below.refl _ _).drew) (fun hHeld => ?_)
       refine tkI 0 36 rfl (by intro w hSw; obtain ⟨⟨g0, g1⟩, lk, ck⟩ := HG.out _ (hHeld0.trans (hSw.mono hHeld0.size)); have k0 := ck 0; have k1 := ck 1; simp at k0 k1; clear ck; go_simp <;> with_reducible rfl) hHeld ?_; simp only [pqZ]
       refine tkI 1 37 rfl (by intro w hSw; obtain ⟨⟨g0, g1⟩, lk, ck⟩ := HG.out _ (hHeld0.trans (hSw.mono hHeld0.size)); have k0 := ck 0; have k1 := ck 1; simp at k0 k1; clear ck; go_simp <;> with_reducible rfl) hHeld ?_; simp only [pqZ]
       refine tkI 2 38 rfl (by intro w hSw; obtain ⟨⟨g0, g1⟩, lk, ck⟩ := HG.out _ (hHeld0.trans (hSw.mono hHeld0.size)); have k0 := ck 0; have k1 := ck 1; simp at k0 k1; clear ck; go_simp <;> with_reducible rfl) hHeld ?_; simp only [pqZ]
       refine tkI 3 39 rfl (by intro w hSw; obtain ⟨⟨g0, g1⟩, lk, ck⟩ := HG.out _ (hHeld0.trans (hSw.mono hHeld0.size)); have k0 := ck 0; have k1 := ck 1; simp at k0 k1; clear ck; go_simp <;> with_reducible rfl) hHeld ?_; simp only [pqZ]
       refine tkI 4 40 rfl (by intro w hSw; obtain ⟨⟨g0, g1⟩, lk, ck⟩ := HG.out _ (hHeld0.trans (hSw.mono hHeld0.size)); have k0 := ck 0; have k1 := ck 1; simp at k0 k1; clear ck; go_simp <;> with_reducible rfl) hHeld ?_; simp only [pqZ]
       refine rdZ 5 41 rfl (by kernel_rfl) (fun K hK => ?_)
       go_simp
       refine (r15less_any _ _ _ _ _).mono ?_
       rintro e u1 ⟨rfl, hk1⟩
       have hKeep := since_step hHeld hk1
       rw [HL.out]
       go_wp2_with fail
       refine hK.out _ _ (by (try dsimp only); exact hKeep) (fun hHeld => ?_); clear hK K hKeep; try simp only [pqZ]
       refine wpAnyH_done (by kernel_rfl) ?_ _
       have hB3 := hBi.trans ((hHeld0.trans (hHeld.mono hHeld0.size)).mono hBi.size)
       go_wp2_with fail
       go_roundw
       case rel => exact ⟨j + 1, a, by omega, by go_num, HA.out, rfl, by rw [HP.out], hB3⟩
       case measure => simp [intOf]; omega
     | false =>
      rw [ht] at HP
      simp only [Bool.false_or] at HP
      by_cases he : US[j].ac = va ∧ US[j].cl = vc
      ·have hah : ahUn US[j] ⟨va, vc⟩ = false := by simp only [ahUn, keyLt_not]; omega
       have HE := Lib.hid he
       have HL := Lib.hid hah
       clear he
       have HA := Lib.hid (HAT.out.no fun _ => hah)
       clear hah ht
       generalize US[j] = y at *
       obtain ⟨ya, yc⟩ := y
       unfold Un.at at HG
       unfold ahUn at HL
       simp only at HG HL HP
       obtain ⟨e1, e2⟩ := HE.out
       simp only at e1 e2
       subst e1; subst e2
       have HP := Lib.hid (HP.out.trans (show (ya == ya && yc == yc) = true by simp))
       go_wp2_with fail
       refine wp_region_held_drew (S := (fun V => Below wi.heap.size wi V)) (by kernel_rfl) (by exact (Below.refl _ _).drew) (fun hHeld => ?_)
       refine tkI 0 27 rfl (by intro w hSw; obtain ⟨⟨g0, g1⟩, lk, ck⟩ := HG.out _ hSw; have k0 := ck 0; have k1 := ck 1; simp at k0 k1; clear ck; go_simp <;> with_reducible rfl) hHeld ?_; simp only [pqZ]
       refine tkI 1 28 rfl (by intro w hSw; obtain ⟨⟨g0, g1⟩, lk, ck⟩ := HG.out _ hSw; have k0 := ck 0; have k1 := ck 1; simp at k0 k1; clear ck; go_simp <;> with_reducible rfl) hHeld ?_; simp only [pqZ]
       refine tkI 2 29 rfl (by intro w hSw; obtain ⟨⟨g0, g1⟩, lk, ck⟩ := HG.out _ hSw; have k0 := ck 0; have k1 := ck 1; simp at k0 k1; clear ck; go_simp <;> with_reducible rfl) hHeld ?_; simp only [pqZ]
       refine tkI 3 30 rfl (by intro w hSw; obtain ⟨⟨g0, g1⟩, lk, ck⟩ := HG.out _ hSw; have k0 := ck 0; have k1 := ck 1; simp at k0 k1; clear ck; go_simp <;> with_reducible rfl) hHeld ?_; simp only [pqZ]
       refine tkI 4 31 rfl (by intro w hSw; obtain ⟨⟨g0, g1⟩, lk, ck⟩ := HG.out _ hSw; have k0 := ck 0; have k1 := ck 1; simp at k0 k1; clear ck; go_simp <;> with_reducible rfl) hHeld ?_; simp only [pqZ]
       refine tkI 5 32 rfl (by intro w hSw; obtain ⟨⟨g0, g1⟩, lk, ck⟩ := HG.out _ hSw; have k0 := ck 0; have k1 := ck 1; simp at k0 k1; clear ck; go_simp <;> with_reducible rfl) hHeld ?_; simp only [pqZ]
       refine tkI 6 33 rfl (by intro w hSw; obtain ⟨⟨g0, g1⟩, lk, ck⟩ := HG.out _ hSw; have k0 := ck 0; have k1 := ck 1; simp at k0 k1; clear ck; go_simp <;> with_reducible rfl) hHeld ?_; simp only [pqZ]
       refine tkI 7 34 rfl (by intro w hSw; obtain ⟨⟨g0, g1⟩, lk, ck⟩ := HG.out _ hSw; have k0 := ck 0; have k1 := ck 1; simp at k0 k1; clear ck; go_simp <;> with_reducible rfl) hHeld ?_; simp only [pqZ]
       refine tkI 8 35 rfl (by intro w hSw; obtain ⟨⟨g0, g1⟩, lk, ck⟩ := HG.out _ hSw; have k0 := ck 0; have k1 := ck 1; simp at k0 k1; clear ck; go_simp <;> with_reducible rfl) hHeld ?_; simp only [pqZ]
       refine tkI 9 7 rfl (by intro w hSw; obtain ⟨⟨g0, g1⟩, lk, ck⟩ := HG.out _ hSw; have k0 := ck 0; have k1 := ck 1; simp at k0 k1; clear ck; go_simp <;> with_reducible rfl) hHeld ?_; simp only [pqZ]
       refine wpAnyH_done (by kernel_rfl) ?_ _
       have hHeld0 := hHeld
       generalize hwx : wi.drew = wx at *
       clear hwx hHeld
       go_wp2_with fail
       refine wp_region_held_drew (S := (fun V => Below wx.heap.size wx V)) (by kernel_rfl) (by exact (Below.refl _ _).drew) (fun hHeld => ?_)
       refine tkI 0 36 rfl (by intro w hSw; obtain ⟨⟨g0, g1⟩, lk, ck⟩ := HG.out _ (hHeld0.trans (hSw.mono hHeld0.size)); have k0 := ck 0; have k1 := ck 1; simp at k0 k1; clear ck; go_simp <;> with_reducible rfl) hHeld ?_; simp only [pqZ]
       refine tkI 1 37 rfl (by intro w hSw; obtain ⟨⟨g0, g1⟩, lk, ck⟩ := HG.out _ (hHeld0.trans (hSw.mono hHeld0.size)); have k0 := ck 0; have k1 := ck 1; simp at k0 k1; clear ck; go_simp <;> with_reducible rfl) hHeld ?_; simp only [pqZ]
       refine tkI 2 38 rfl (by intro w hSw; obtain ⟨⟨g0, g1⟩, lk, ck⟩ := HG.out _ (hHeld0.trans (hSw.mono hHeld0.size)); have k0 := ck 0; have k1 := ck 1; simp at k0 k1; clear ck; go_simp <;> with_reducible rfl) hHeld ?_; simp only [pqZ]
       refine tkI 3 39 rfl (by intro w hSw; obtain ⟨⟨g0, g1⟩, lk, ck⟩ := HG.out _ (hHeld0.trans (hSw.mono hHeld0.size)); have k0 := ck 0; have k1 := ck 1; simp at k0 k1; clear ck; go_simp <;> with_reducible rfl) hHeld ?_; simp only [pqZ]
       refine tkI 4 40 rfl (by intro w hSw; obtain ⟨⟨g0, g1⟩, lk, ck⟩ := HG.out _ (hHeld0.trans (hSw.mono hHeld0.size)); have k0 := ck 0; have k1 := ck 1; simp at k0 k1; clear ck; go_simp <;> with_reducible rfl) hHeld ?_; simp only [pqZ]
       refine rdZ 5 41 rfl (by kernel_rfl) (fun K hK => ?_)
       go_simp
       refine (r15less_any _ _ _ _ _).mono ?_
       rintro e u1 ⟨rfl, hk1⟩
       have hKeep := since_step hHeld hk1
       rw [HL.out]
       go_wp2_with fail
       refine hK.out _ _ (by (try dsimp only); exact hKeep) (fun hHeld => ?_); clear hK K hKeep; try simp only [pqZ]
       refine wpAnyH_done (by kernel_rfl) ?_ _
       have hB3 := hBi.trans ((hHeld0.trans (hHeld.mono hHeld0.size)).mono hBi.size)
       go_wp2_with fail
       go_roundw
       case rel => exact ⟨j + 1, a, by omega, by go_num, HA.out, rfl, by rw [HP.out], hB3⟩
       case measure => simp [intOf]; omega
      ·cases hah : ahUn US[j] ⟨va, vc⟩ with
       | true =>
        have HE := Lib.hid he
        clear he
        have HL := Lib.hid hah
        have HA := Lib.hid (HAT.out.yes HSD.out hjl hah)
        clear hah ht
        generalize US[j] = y at *
        obtain ⟨ya, yc⟩ := y
        unfold Un.at at HG
        unfold ahUn at HL
        simp only at HG HL HP
        by_cases e1 : ya = va
        ·subst e1
         have e2 : ¬ yc = vc := fun h => HE.out ⟨rfl, h⟩
         have e2b : (yc == vc) = false := by simpa using e2
         have HP := Lib.hid (HP.out.trans (show (ya == ya && yc == vc) = false by simp [e2]))
         clear e2
         go_wp2_with fail
         refine wp_region_held_drew (S := (fun V => Below wi.heap.size wi V)) (by kernel_rfl) (by exact (Below.refl _ _).drew) (fun hHeld => ?_)
         refine tkI 0 27 rfl (by intro w hSw; obtain ⟨⟨g0, g1⟩, lk, ck⟩ := HG.out _ hSw; have k0 := ck 0; have k1 := ck 1; simp at k0 k1; clear ck; go_simp <;> with_reducible rfl) hHeld ?_; simp only [pqZ]
         refine tkI 1 28 rfl (by intro w hSw; obtain ⟨⟨g0, g1⟩, lk, ck⟩ := HG.out _ hSw; have k0 := ck 0; have k1 := ck 1; simp at k0 k1; clear ck; go_simp <;> with_reducible rfl) hHeld ?_; simp only [pqZ]
         refine tkI 2 29 rfl (by intro w hSw; obtain ⟨⟨g0, g1⟩, lk, ck⟩ := HG.out _ hSw; have k0 := ck 0; have k1 := ck 1; simp at k0 k1; clear ck; go_simp <;> with_reducible rfl) hHeld ?_; simp only [pqZ]
         refine tkI 3 30 rfl (by intro w hSw; obtain ⟨⟨g0, g1⟩, lk, ck⟩ := HG.out _ hSw; have k0 := ck 0; have k1 := ck 1; simp at k0 k1; clear ck; go_simp <;> with_reducible rfl) hHeld ?_; simp only [pqZ]
         refine tkI 4 31 rfl (by intro w hSw; obtain ⟨⟨g0, g1⟩, lk, ck⟩ := HG.out _ hSw; have k0 := ck 0; have k1 := ck 1; simp at k0 k1; clear ck; go_simp <;> with_reducible rfl) hHeld ?_; simp only [pqZ]
         refine tkI 5 32 rfl (by intro w hSw; obtain ⟨⟨g0, g1⟩, lk, ck⟩ := HG.out _ hSw; have k0 := ck 0; have k1 := ck 1; simp at k0 k1; clear ck; go_simp <;> with_reducible rfl) hHeld ?_; simp only [pqZ]
         refine tkI 6 33 rfl (by intro w hSw; obtain ⟨⟨g0, g1⟩, lk, ck⟩ := HG.out _ hSw; have k0 := ck 0; have k1 := ck 1; simp at k0 k1; clear ck; go_simp <;> with_reducible rfl) hHeld ?_; simp only [pqZ]
         refine tkI 7 34 rfl (by intro w hSw; obtain ⟨⟨g0, g1⟩, lk, ck⟩ := HG.out _ hSw; have k0 := ck 0; have k1 := ck 1; simp at k0 k1; clear ck; go_simp <;> with_reducible rfl) hHeld ?_; simp only [pqZ]
         refine tkI 8 35 rfl (by intro w hSw; obtain ⟨⟨g0, g1⟩, lk, ck⟩ := HG.out _ hSw; have k0 := ck 0; have k1 := ck 1; simp at k0 k1; clear ck; go_simp <;> with_reducible rfl) hHeld ?_; simp only [pqZ]
         refine tkI 9 7 rfl (by intro w hSw; obtain ⟨⟨g0, g1⟩, lk, ck⟩ := HG.out _ hSw; have k0 := ck 0; have k1 := ck 1; simp at k0 k1; clear ck; go_simp <;> with_reducible rfl) hHeld ?_; simp only [pqZ]
         refine wpAnyH_done (by kernel_rfl) ?_ _
         have hHeld0 := hHeld
         generalize hwx : wi.drew = wx at *
         clear hwx hHeld
         go_wp2_with fail
         refine wp_region_held_drew (S := (fun V => Below wx.heap.size wx V)) (by kernel_rfl) (by exact (Below.refl _ _).drew) (fun hHeld => ?_)
         refine tkI 0 36 rfl (by intro w hSw; obtain ⟨⟨g0, g1⟩, lk, ck⟩ := HG.out _ (hHeld0.trans (hSw.mono hHeld0.size)); have k0 := ck 0; have k1 := ck 1; simp at k0 k1; clear ck; go_simp <;> with_reducible rfl) hHeld ?_; simp only [pqZ]
         refine tkI 1 37 rfl (by intro w hSw; obtain ⟨⟨g0, g1⟩, lk, ck⟩ := HG.out _ (hHeld0.trans (hSw.mono hHeld0.size)); have k0 := ck 0; have k1 := ck 1; simp at k0 k1; clear ck; go_simp <;> with_reducible rfl) hHeld ?_; simp only [pqZ]
         refine tkI 2 38 rfl (by intro w hSw; obtain ⟨⟨g0, g1⟩, lk, ck⟩ := HG.out _ (hHeld0.trans (hSw.mono hHeld0.size)); have k0 := ck 0; have k1 := ck 1; simp at k0 k1; clear ck; go_simp <;> with_reducible rfl) hHeld ?_; simp only [pqZ]
         refine tkI 3 39 rfl (by intro w hSw; obtain ⟨⟨g0, g1⟩, lk, ck⟩ := HG.out _ (hHeld0.trans (hSw.mono hHeld0.size)); have k0 := ck 0; have k1 := ck 1; simp at k0 k1; clear ck; go_simp <;> with_reducible rfl) hHeld ?_; simp only [pqZ]
         refine tkI 4 40 rfl (by intro w hSw; obtain ⟨⟨g0, g1⟩, lk, ck⟩ := HG.out _ (hHeld0.trans (hSw.mono hHeld0.size)); have k0 := ck 0; have k1 := ck 1; simp at k0 k1; clear ck; go_simp <;> with_reducible rfl) hHeld ?_; simp only [pqZ]
         refine rdZ 5 41 rfl (by kernel_rfl) (fun K hK => ?_)
         go_simp
         refine (r15less_any _ _ _ _ _).mono ?_
         rintro e u1 ⟨rfl, hk1⟩
         have hKeep := since_step hHeld hk1
         rw [HL.out]
         go_wp2_with fail
         refine hK.out _ _ (by (try dsimp only); exact hKeep) (fun hHeld => ?_); clear hK K hKeep; try simp only [pqZ]
         refine wpAnyH_done (by kernel_rfl) ?_ _
         have hB3 := hBi.trans ((hHeld0.trans (hHeld.mono hHeld0.size)).mono hBi.size)
         go_wp2_with fail
         go_roundw
         case rel => exact ⟨j + 1, j + 1, by omega, by go_num, HA.out, by go_num, by rw [HP.out], hB3⟩
         case measure => simp [intOf]; omega
        ·have e1b : (ya == va) = false := by simpa using e1
         have HP := Lib.hid (HP.out.trans (show (ya == va && yc == vc) = false by simp [e1]))
         clear e1
         go_wp2_with fail
         refine wp_region_held_drew (S := (fun V => Below wi.heap.size wi V)) (by kernel_rfl) (by exact (Below.refl _ _).drew) (fun hHeld => ?_)
         refine tkI 0 27 rfl (by intro w hSw; obtain ⟨⟨g0, g1⟩, lk, ck⟩ := HG.out _ hSw; have k0 := ck 0; have k1 := ck 1; simp at k0 k1; clear ck; go_simp <;> with_reducible rfl) hHeld ?_; simp only [pqZ]
         refine tkI 1 28 rfl (by intro w hSw; obtain ⟨⟨g0, g1⟩, lk, ck⟩ := HG.out _ hSw; have k0 := ck 0; have k1 := ck 1; simp at k0 k1; clear ck; go_simp <;> with_reducible rfl) hHeld ?_; simp only [pqZ]
         refine tkI 2 29 rfl (by intro w hSw; obtain ⟨⟨g0, g1⟩, lk, ck⟩ := HG.out _ hSw; have k0 := ck 0; have k1 := ck 1; simp at k0 k1; clear ck; go_simp <;> with_reducible rfl) hHeld ?_; simp only [pqZ]
         refine tkI 3 30 rfl (by intro w hSw; obtain ⟨⟨g0, g1⟩, lk, ck⟩ := HG.out _ hSw; have k0 := ck 0; have k1 := ck 1; simp at k0 k1; clear ck; go_simp <;> with_reducible rfl) hHeld ?_; simp only [pqZ]
         refine tkI 4 31 rfl (by intro w hSw; obtain ⟨⟨g0, g1⟩, lk, ck⟩ := HG.out _ hSw; have k0 := ck 0; have k1 := ck 1; simp at k0 k1; clear ck; go_simp <;> with_reducible rfl) hHeld ?_; simp only [pqZ]
         refine tkI 5 32 rfl (by intro w hSw; obtain ⟨⟨g0, g1⟩, lk, ck⟩ := HG.out _ hSw; have k0 := ck 0; have k1 := ck 1; simp at k0 k1; clear ck; go_simp <;> with_reducible rfl) hHeld ?_; simp only [pqZ]
         refine tkI 6 33 rfl (by intro w hSw; obtain ⟨⟨g0, g1⟩, lk, ck⟩ := HG.out _ hSw; have k0 := ck 0; have k1 := ck 1; simp at k0 k1; clear ck; go_simp <;> with_reducible rfl) hHeld ?_; simp only [pqZ]
         refine tkI 7 34 rfl (by intro w hSw; obtain ⟨⟨g0, g1⟩, lk, ck⟩ := HG.out _ hSw; have k0 := ck 0; have k1 := ck 1; simp at k0 k1; clear ck; go_simp <;> with_reducible rfl) hHeld ?_; simp only [pqZ]
         refine tkI 8 35 rfl (by intro w hSw; obtain ⟨⟨g0, g1⟩, lk, ck⟩ := HG.out _ hSw; have k0 := ck 0; have k1 := ck 1; simp at k0 k1; clear ck; go_simp <;> with_reducible rfl) hHeld ?_; simp only [pqZ]
         refine tkI 9 7 rfl (by intro w hSw; obtain ⟨⟨g0, g1⟩, lk, ck⟩ := HG.out _ hSw; have k0 := ck 0; have k1 := ck 1; simp at k0 k1; clear ck; go_simp <;> with_reducible rfl) hHeld ?_; simp only [pqZ]
         refine wpAnyH_done (by kernel_rfl) ?_ _
         have hHeld0 := hHeld
         generalize hwx : wi.drew = wx at *
         clear hwx hHeld
         go_wp2_with fail
         refine wp_region_held_drew (S := (fun V => Below wx.heap.size wx V)) (by kernel_rfl) (by exact (Below.refl _ _).drew) (fun hHeld => ?_)
         refine tkI 0 36 rfl (by intro w hSw; obtain ⟨⟨g0, g1⟩, lk, ck⟩ := HG.out _ (hHeld0.trans (hSw.mono hHeld0.size)); have k0 := ck 0; have k1 := ck 1; simp at k0 k1; clear ck; go_simp <;> with_reducible rfl) hHeld ?_; simp only [pqZ]
         refine tkI 1 37 rfl (by intro w hSw; obtain ⟨⟨g0, g1⟩, lk, ck⟩ := HG.out _ (hHeld0.trans (hSw.mono hHeld0.size)); have k0 := ck 0; have k1 := ck 1; simp at k0 k1; clear ck; go_simp <;> with_reducible rfl) hHeld ?_; simp only [pqZ]
         refine tkI 2 38 rfl (by intro w hSw; obtain ⟨⟨g0, g1⟩, lk, ck⟩ := HG.out _ (hHeld0.trans (hSw.mono hHeld0.size)); have k0 := ck 0; have k1 := ck 1; simp at k0 k1; clear ck; go_simp <;> with_reducible rfl) hHeld ?_; simp only [pqZ]
         refine tkI 3 39 rfl (by intro w hSw; obtain ⟨⟨g0, g1⟩, lk, ck⟩ := HG.out _ (hHeld0.trans (hSw.mono hHeld0.size)); have k0 := ck 0; have k1 := ck 1; simp at k0 k1; clear ck; go_simp <;> with_reducible rfl) hHeld ?_; simp only [pqZ]
         refine tkI 4 40 rfl (by intro w hSw; obtain ⟨⟨g0, g1⟩, lk, ck⟩ := HG.out _ (hHeld0.trans (hSw.mono hHeld0.size)); have k0 := ck 0; have k1 := ck 1; simp at k0 k1; clear ck; go_simp <;> with_reducible rfl) hHeld ?_; simp only [pqZ]
         refine rdZ 5 41 rfl (by kernel_rfl) (fun K hK => ?_)
         go_simp
         refine (r15less_any _ _ _ _ _).mono ?_
         rintro e u1 ⟨rfl, hk1⟩
         have hKeep := since_step hHeld hk1
         rw [HL.out]
         go_wp2_with fail
         refine hK.out _ _ (by (try dsimp only); exact hKeep) (fun hHeld => ?_); clear hK K hKeep; try simp only [pqZ]
         refine wpAnyH_done (by kernel_rfl) ?_ _
         have hB3 := hBi.trans ((hHeld0.trans (hHeld.mono hHeld0.size)).mono hBi.size)
         go_wp2_with fail
         go_roundw
         case rel => exact ⟨j + 1, j + 1, by omega, by go_num, HA.out, by go_num, by rw [HP.out], hB3⟩
         case measure => simp [intOf]; omega
       | false =>
        have HE := Lib.hid he
        clear he
        have HL := Lib.hid hah
        have HA := Lib.hid (HAT.out.no fun _ => hah)
        clear hah ht
        generalize US[j] = y at *
        obtain ⟨ya, yc⟩ := y
        unfold Un.at at HG
        unfold ahUn at HL
        simp only at HG HL HP
        by_cases e1 : ya = va
        ·subst e1
         have e2 : ¬ yc = vc := fun h => HE.out ⟨rfl, h⟩
         have e2b : (yc == vc) = false := by simpa using e2
         have HP := Lib.hid (HP.out.trans (show (ya == ya && yc == vc) = false by simp [e2]))
         clear e2
         go_wp2_with fail
         refine wp_region_held_drew (S := (fun V => Below wi.heap.size wi V)) (by kernel_rfl) (by exact (Below.refl _ _).drew) (fun hHeld => ?_)
         refine tkI 0 27 rfl (by intro w hSw; obtain ⟨⟨g0, g1⟩, lk, ck⟩ := HG.out _ hSw; have k0 := ck 0; have k1 := ck 1; simp at k0 k1; clear ck; go_simp <;> with_reducible rfl) hHeld ?_; simp only [pqZ]
         refine tkI 1 28 rfl (by intro w hSw; obtain ⟨⟨g0, g1⟩, lk, ck⟩ := HG.out _ hSw; have k0 := ck 0; have k1 := ck 1; simp at k0 k1; clear ck; go_simp <;> with_reducible rfl) hHeld ?_; simp only [pqZ]
         refine tkI 2 29 rfl (by intro w hSw; obtain ⟨⟨g0, g1⟩, lk, ck⟩ := HG.out _ hSw; have k0 := ck 0; have k1 := ck 1; simp at k0 k1; clear ck; go_simp <;> with_reducible rfl) hHeld ?_; simp only [pqZ]
         refine tkI 3 30 rfl (by intro w hSw; obtain ⟨⟨g0, g1⟩, lk, ck⟩ := HG.out _ hSw; have k0 := ck 0; have k1 := ck 1; simp at k0 k1; clear ck; go_simp <;> with_reducible rfl) hHeld ?_; simp only [pqZ]
         refine tkI 4 31 rfl (by intro w hSw; obtain ⟨⟨g0, g1⟩, lk, ck⟩ := HG.out _ hSw; have k0 := ck 0; have k1 := ck 1; simp at k0 k1; clear ck; go_simp <;> with_reducible rfl) hHeld ?_; simp only [pqZ]
         refine tkI 5 32 rfl (by intro w hSw; obtain ⟨⟨g0, g1⟩, lk, ck⟩ := HG.out _ hSw; have k0 := ck 0; have k1 := ck 1; simp at k0 k1; clear ck; go_simp <;> with_reducible rfl) hHeld ?_; simp only [pqZ]
         refine tkI 6 33 rfl (by intro w hSw; obtain ⟨⟨g0, g1⟩, lk, ck⟩ := HG.out _ hSw; have k0 := ck 0; have k1 := ck 1; simp at k0 k1; clear ck; go_simp <;> with_reducible rfl) hHeld ?_; simp only [pqZ]
         refine tkI 7 34 rfl (by intro w hSw; obtain ⟨⟨g0, g1⟩, lk, ck⟩ := HG.out _ hSw; have k0 := ck 0; have k1 := ck 1; simp at k0 k1; clear ck; go_simp <;> with_reducible rfl) hHeld ?_; simp only [pqZ]
         refine tkI 8 35 rfl (by intro w hSw; obtain ⟨⟨g0, g1⟩, lk, ck⟩ := HG.out _ hSw; have k0 := ck 0; have k1 := ck 1; simp at k0 k1; clear ck; go_simp <;> with_reducible rfl) hHeld ?_; simp only [pqZ]
         refine tkI 9 7 rfl (by intro w hSw; obtain ⟨⟨g0, g1⟩, lk, ck⟩ := HG.out _ hSw; have k0 := ck 0; have k1 := ck 1; simp at k0 k1; clear ck; go_simp <;> with_reducible rfl) hHeld ?_; simp only [pqZ]
         refine wpAnyH_done (by kernel_rfl) ?_ _
         have hHeld0 := hHeld
         generalize hwx : wi.drew = wx at *
         clear hwx hHeld
         go_wp2_with fail
         refine wp_region_held_drew (S := (fun V => Below wx.heap.size wx V)) (by kernel_rfl) (by exact (Below.refl _ _).drew) (fun hHeld => ?_)
         refine tkI 0 36 rfl (by intro w hSw; obtain ⟨⟨g0, g1⟩, lk, ck⟩ := HG.out _ (hHeld0.trans (hSw.mono hHeld0.size)); have k0 := ck 0; have k1 := ck 1; simp at k0 k1; clear ck; go_simp <;> with_reducible rfl) hHeld ?_; simp only [pqZ]
         refine tkI 1 37 rfl (by intro w hSw; obtain ⟨⟨g0, g1⟩, lk, ck⟩ := HG.out _ (hHeld0.trans (hSw.mono hHeld0.size)); have k0 := ck 0; have k1 := ck 1; simp at k0 k1; clear ck; go_simp <;> with_reducible rfl) hHeld ?_; simp only [pqZ]
         refine tkI 2 38 rfl (by intro w hSw; obtain ⟨⟨g0, g1⟩, lk, ck⟩ := HG.out _ (hHeld0.trans (hSw.mono hHeld0.size)); have k0 := ck 0; have k1 := ck 1; simp at k0 k1; clear ck; go_simp <;> with_reducible rfl) hHeld ?_; simp only [pqZ]
         refine tkI 3 39 rfl (by intro w hSw; obtain ⟨⟨g0, g1⟩, lk, ck⟩ := HG.out _ (hHeld0.trans (hSw.mono hHeld0.size)); have k0 := ck 0; have k1 := ck 1; simp at k0 k1; clear ck; go_simp <;> with_reducible rfl) hHeld ?_; simp only [pqZ]
         refine tkI 4 40 rfl (by intro w hSw; obtain ⟨⟨g0, g1⟩, lk, ck⟩ := HG.out _ (hHeld0.trans (hSw.mono hHeld0.size)); have k0 := ck 0; have k1 := ck 1; simp at k0 k1; clear ck; go_simp <;> with_reducible rfl) hHeld ?_; simp only [pqZ]
         refine rdZ 5 41 rfl (by kernel_rfl) (fun K hK => ?_)
         go_simp
         refine (r15less_any _ _ _ _ _).mono ?_
         rintro e u1 ⟨rfl, hk1⟩
         have hKeep := since_step hHeld hk1
         rw [HL.out]
         go_wp2_with fail
         refine hK.out _ _ (by (try dsimp only); exact hKeep) (fun hHeld => ?_); clear hK K hKeep; try simp only [pqZ]
         refine wpAnyH_done (by kernel_rfl) ?_ _
         have hB3 := hBi.trans ((hHeld0.trans (hHeld.mono hHeld0.size)).mono hBi.size)
         go_wp2_with fail
         go_roundw
         case rel => exact ⟨j + 1, a, by omega, by go_num, HA.out, rfl, by rw [HP.out], hB3⟩
         case measure => simp [intOf]; omega
        ·have e1b : (ya == va) = false := by simpa using e1
         have HP := Lib.hid (HP.out.trans (show (ya == va && yc == vc) = false by simp [e1]))
         clear e1
         go_wp2_with fail
         refine wp_region_held_drew (S := (fun V => Below wi.heap.size wi V)) (by kernel_rfl) (by exact (Below.refl _ _).drew) (fun hHeld => ?_)
         refine tkI 0 27 rfl (by intro w hSw; obtain ⟨⟨g0, g1⟩, lk, ck⟩ := HG.out _ hSw; have k0 := ck 0; have k1 := ck 1; simp at k0 k1; clear ck; go_simp <;> with_reducible rfl) hHeld ?_; simp only [pqZ]
         refine tkI 1 28 rfl (by intro w hSw; obtain ⟨⟨g0, g1⟩, lk, ck⟩ := HG.out _ hSw; have k0 := ck 0; have k1 := ck 1; simp at k0 k1; clear ck; go_simp <;> with_reducible rfl) hHeld ?_; simp only [pqZ]
         refine tkI 2 29 rfl (by intro w hSw; obtain ⟨⟨g0, g1⟩, lk, ck⟩ := HG.out _ hSw; have k0 := ck 0; have k1 := ck 1; simp at k0 k1; clear ck; go_simp <;> with_reducible rfl) hHeld ?_; simp only [pqZ]
         refine tkI 3 30 rfl (by intro w hSw; obtain ⟨⟨g0, g1⟩, lk, ck⟩ := HG.out _ hSw; have k0 := ck 0; have k1 := ck 1; simp at k0 k1; clear ck; go_simp <;> with_reducible rfl) hHeld ?_; simp only [pqZ]
         refine tkI 4 31 rfl (by intro w hSw; obtain ⟨⟨g0, g1⟩, lk, ck⟩ := HG.out _ hSw; have k0 := ck 0; have k1 := ck 1; simp at k0 k1; clear ck; go_simp <;> with_reducible rfl) hHeld ?_; simp only [pqZ]
         refine tkI 5 32 rfl (by intro w hSw; obtain ⟨⟨g0, g1⟩, lk, ck⟩ := HG.out _ hSw; have k0 := ck 0; have k1 := ck 1; simp at k0 k1; clear ck; go_simp <;> with_reducible rfl) hHeld ?_; simp only [pqZ]
         refine tkI 6 33 rfl (by intro w hSw; obtain ⟨⟨g0, g1⟩, lk, ck⟩ := HG.out _ hSw; have k0 := ck 0; have k1 := ck 1; simp at k0 k1; clear ck; go_simp <;> with_reducible rfl) hHeld ?_; simp only [pqZ]
         refine tkI 7 34 rfl (by intro w hSw; obtain ⟨⟨g0, g1⟩, lk, ck⟩ := HG.out _ hSw; have k0 := ck 0; have k1 := ck 1; simp at k0 k1; clear ck; go_simp <;> with_reducible rfl) hHeld ?_; simp only [pqZ]
         refine tkI 8 35 rfl (by intro w hSw; obtain ⟨⟨g0, g1⟩, lk, ck⟩ := HG.out _ hSw; have k0 := ck 0; have k1 := ck 1; simp at k0 k1; clear ck; go_simp <;> with_reducible rfl) hHeld ?_; simp only [pqZ]
         refine tkI 9 7 rfl (by intro w hSw; obtain ⟨⟨g0, g1⟩, lk, ck⟩ := HG.out _ hSw; have k0 := ck 0; have k1 := ck 1; simp at k0 k1; clear ck; go_simp <;> with_reducible rfl) hHeld ?_; simp only [pqZ]
         refine wpAnyH_done (by kernel_rfl) ?_ _
         have hHeld0 := hHeld
         generalize hwx : wi.drew = wx at *
         clear hwx hHeld
         go_wp2_with fail
         refine wp_region_held_drew (S := (fun V => Below wx.heap.size wx V)) (by kernel_rfl) (by exact (Below.refl _ _).drew) (fun hHeld => ?_)
         refine tkI 0 36 rfl (by intro w hSw; obtain ⟨⟨g0, g1⟩, lk, ck⟩ := HG.out _ (hHeld0.trans (hSw.mono hHeld0.size)); have k0 := ck 0; have k1 := ck 1; simp at k0 k1; clear ck; go_simp <;> with_reducible rfl) hHeld ?_; simp only [pqZ]
         refine tkI 1 37 rfl (by intro w hSw; obtain ⟨⟨g0, g1⟩, lk, ck⟩ := HG.out _ (hHeld0.trans (hSw.mono hHeld0.size)); have k0 := ck 0; have k1 := ck 1; simp at k0 k1; clear ck; go_simp <;> with_reducible rfl) hHeld ?_; simp only [pqZ]
         refine tkI 2 38 rfl (by intro w hSw; obtain ⟨⟨g0, g1⟩, lk, ck⟩ := HG.out _ (hHeld0.trans (hSw.mono hHeld0.size)); have k0 := ck 0; have k1 := ck 1; simp at k0 k1; clear ck; go_simp <;> with_reducible rfl) hHeld ?_; simp only [pqZ]
         refine tkI 3 39 rfl (by intro w hSw; obtain ⟨⟨g0, g1⟩, lk, ck⟩ := HG.out _ (hHeld0.trans (hSw.mono hHeld0.size)); have k0 := ck 0; have k1 := ck 1; simp at k0 k1; clear ck; go_simp <;> with_reducible rfl) hHeld ?_; simp only [pqZ]
         refine tkI 4 40 rfl (by intro w hSw; obtain ⟨⟨g0, g1⟩, lk, ck⟩ := HG.out _ (hHeld0.trans (hSw.mono hHeld0.size)); have k0 := ck 0; have k1 := ck 1; simp at k0 k1; clear ck; go_simp <;> with_reducible rfl) hHeld ?_; simp only [pqZ]
         refine rdZ 5 41 rfl (by kernel_rfl) (fun K hK => ?_)
         go_simp
         refine (r15less_any _ _ _ _ _).mono ?_
         rintro e u1 ⟨rfl, hk1⟩
         have hKeep := since_step hHeld hk1
         rw [HL.out]
         go_wp2_with fail
         refine hK.out _ _ (by (try dsimp only); exact hKeep) (fun hHeld => ?_); clear hK K hKeep; try simp only [pqZ]
         refine wpAnyH_done (by kernel_rfl) ?_ _
         have hB3 := hBi.trans ((hHeld0.trans (hHeld.mono hHeld0.size)).mono hBi.size)
         go_wp2_with fail
         go_roundw
         case rel => exact ⟨j + 1, a, by omega, by go_num, HA.out, rfl, by rw [HP.out], hB3⟩
         case measure => simp [intOf]; omega
    ·obtain rfl : j = US.length := by omega
     have hBr := since_step hB5 hBi
     have hOi := own_below hO5 hBi
     cases ht : hasP ⟨va, vc⟩ US US.length with
     | true =>
      have HE : Hid (unitsU (l.take (k + 1)) = US) := Lib.hid (by rw [HSN.out, put_there HSD.out (hasP_mem.1 ht)])
      clear ht
      go_wp2_with fail
      go_roundw
      case rel => exact ⟨k + 1, A', c', by omega, by go_num, by rw [HE.out], by rw [HE.out]; exact hOi, hBr⟩
      case measure => simp [intOf]; omega
     | false =>
      have HE : Hid (unitsU (l.take (k + 1)) = US.take a ++ ⟨va, vc⟩ :: US.drop a) := Lib.hid (by rw [HSN.out, put_new HSD.out HAT.out ht])
      have hal := HAT.out.le
      have HX := Lib.hid (fun V (hV : Below wr.heap.size wr V) => (hX5.below hBi).below hV)
      have hcl := (own_leP hOi).1
      have hcm := (own_leP hOi).2
      have HL1 : Hid ((rc Un.cells (US.take a)).length = a * 2) := Lib.hid (by rw [rc_length Un.len, List.length_take, Nat.min_eq_left (by omega)])
      have ha0 : (0 : Int) ≤ (a : Int) := by omega
      have hac : (a : Int) ≤ (c' : Int) := by omega
      have hau : (a : Int) ≤ (US.length : Int) := by omega
      unfold maxLen at hcm
      clear ht hO5 hX5 hB5 hBi
      rcases hOi.2 with ⟨h0, h1⟩ | ⟨g', cap', cur', h0, hgB, _, h3, h4, _⟩
      ·injection h0 with e1 e2 e3
       subst e1; subst e3
       have hrn : US = [] := List.eq_nil_of_length_eq_zero h1
       obtain rfl : a = 0 := by omega
       subst hrn
       have HS1 : Hid (Sl wr none (rc Un.cells (([] : List Un).take 0))) := Lib.hid Sl.nil
       have HDR : Hid (([] : List Un).drop 0 = []) := Lib.hid rfl
       simp only [List.length_nil] at *
       go_wp2_with (first
        | (at_builtin; refine wpList_app rfl (.tmp 46) (.tmp 49) rfl EUn rfl rfl (own_nil wr.heap.size _ _) (m := 0) (news := rc Un.cells (([] : List Un).take 0)) HL1.out HS1.out (rc_one Un.one _) (by unfold maxLen; omega) (by omega) (Nat.le_refl _) ?_; intro A2 c2 w3 hown2 hg2 hb2; simp only [Nat.zero_add, List.nil_append] at hown2; obtain ⟨lk, ck⟩ := HX.out _ hb2; have k0 := ck 0; have k1 := ck 1; simp at k0 k1; clear ck)
        | (at_builtin; refine wpList_app rfl (.tmp 51) (.tmp 53) rfl EUn rfl rfl (hown2.alloc _) (m := 1) (news := [.int .i64 va, .int .i64 vc]) rfl (Sl.new_ _ _ _) (Un.one ⟨va, vc⟩) (by unfold maxLen; omega) (by omega) (by have h1 := hb2.size; simp only [World.size_alloc] at h1 ⊢; omega) ?_; intro A3 c3 w4 hown3 hg3 hb3)
        | (at_builtin; refine wpList_app rfl (.tmp 55) (.tmp 58) rfl EUn rfl rfl hown3 (m := 0) (news := []) rfl Sl.nil (by first | exact rc_one Un.one _ | (intro u hu; cases hu)) (by unfold maxLen; omega) (by omega) (by have h1 := hb2.size; have h2 := hb3.size; simp only [World.size_alloc] at h1 h2 ⊢; omega) ?_; intro A4 c4 w6 hown4 hg4 hb4)
        | fail)
       have hBf := since_step hBr ((hb2.trans (((Below.refl _ _).alloc hb2.size _).trans hb3)).trans hb4)
       have hown5 := own_base hown4 hBr.size
       go_roundw
       case rel =>
        refine ⟨k + 1, A4, c4, by omega, by go_num, ?_, ?_, hBf⟩
        ·rw [HE.out]
         have e : (([] : List Un).take 0 ++ (⟨va, vc⟩ : Un) :: ([] : List Un).drop 0).length = 0 + 1 + (0) := by (simp; try omega)
         rw [e]
        ·rw [HE.out]
         have e : (([] : List Un).take 0 ++ (⟨va, vc⟩ : Un) :: ([] : List Un).drop 0).length = 0 + 1 + (0) := by (simp; try omega)
         rw [e, rc_append, rc_cons, ← List.append_assoc]
         rw [HDR.out]; simpa [Un.cells, rc] using hown5
       case measure => simp [intOf]; omega
      ·injection h0 with e1 e2 e3
       subst e1; subst e3
       have HS1 : Hid (Sl wr (some ⟨g', 0, none⟩) (rc Un.cells (US.take a))) := Lib.hid (by rw [← rc_take Un.len]; exact (Sl.of_own hOi).take _)
       by_cases hca : c' = a
       ·obtain rfl : a = US.length := by omega
        subst hca
        have HDR : Hid (US.drop US.length = []) := Lib.hid (List.drop_eq_nil_of_le (by omega))
        go_wp2_with (first
         | (at_builtin; refine wpList_app rfl (.tmp 46) (.tmp 49) rfl EUn rfl rfl (own_nil wr.heap.size _ _) (m := US.length) (news := rc Un.cells (US.take US.length)) HL1.out HS1.out (rc_one Un.one _) (by unfold maxLen; omega) (by omega) (Nat.le_refl _) ?_; intro A2 c2 w3 hown2 hg2 hb2; simp only [Nat.zero_add, List.nil_append] at hown2; obtain ⟨lk, ck⟩ := HX.out _ hb2; have k0 := ck 0; have k1 := ck 1; simp at k0 k1; clear ck)
         | (at_builtin; refine wpList_app rfl (.tmp 51) (.tmp 53) rfl EUn rfl rfl (hown2.alloc _) (m := 1) (news := [.int .i64 va, .int .i64 vc]) rfl (Sl.new_ _ _ _) (Un.one ⟨va, vc⟩) (by unfold maxLen; omega) (by omega) (by have h1 := hb2.size; simp only [World.size_alloc] at h1 ⊢; omega) ?_; intro A3 c3 w4 hown3 hg3 hb3)
         | (at_builtin; refine wpList_app rfl (.tmp 55) (.tmp 58) rfl EUn rfl rfl hown3 (m := 0) (news := []) rfl Sl.nil (by first | exact rc_one Un.one _ | (intro u hu; cases hu)) (by unfold maxLen; omega) (by omega) (by have h1 := hb2.size; have h2 := hb3.size; simp only [World.size_alloc] at h1 h2 ⊢; omega) ?_; intro A4 c4 w6 hown4 hg4 hb4)
         | fail)
        have hBf := since_step hBr ((hb2.trans (((Below.refl _ _).alloc hb2.size _).trans hb3)).trans hb4)
        have hown5 := own_base hown4 hBr.size
        have hln : US.length = US.length + 0 := by omega
        go_roundw
        case rel =>
         refine ⟨k + 1, A4, c4, by omega, by go_num, ?_, ?_, hBf⟩
         ·rw [HE.out]
          have e : (US.take US.length ++ (⟨va, vc⟩ : Un) :: US.drop US.length).length = US.length + 1 + (0) := by (simp; try omega)
          rw [e]
         ·rw [HE.out]
          have e : (US.take US.length ++ (⟨va, vc⟩ : Un) :: US.drop US.length).length = US.length + 1 + (0) := by (simp; try omega)
          rw [e, rc_append, rc_cons, ← List.append_assoc]
          rw [HDR.out]; simpa [Un.cells, rc] using hown5
        case measure => simp [intOf]; omega
       ·have HS2 : Hid (∀ V, Below wr.heap.size wr V → Sl V (some ⟨g', a * 2, none⟩) (rc Un.cells (US.drop a))) := Lib.hid fun V hV => by
         have h := (Sl.of_own hOi).dropU (a * 2)
         rw [rc_drop Un.len, Nat.zero_add] at h
         exact h.below hV
        go_wp2_with (first
         | (at_builtin; refine wpList_app rfl (.tmp 46) (.tmp 49) rfl EUn rfl rfl (own_nil wr.heap.size _ _) (m := a) (news := rc Un.cells (US.take a)) HL1.out HS1.out (rc_one Un.one _) (by unfold maxLen; omega) (by omega) (Nat.le_refl _) ?_; intro A2 c2 w3 hown2 hg2 hb2; simp only [Nat.zero_add, List.nil_append] at hown2; obtain ⟨lk, ck⟩ := HX.out _ hb2; have k0 := ck 0; have k1 := ck 1; simp at k0 k1; clear ck)
         | (at_builtin; refine wpList_app rfl (.tmp 51) (.tmp 53) rfl EUn rfl rfl (hown2.alloc _) (m := 1) (news := [.int .i64 va, .int .i64 vc]) rfl (Sl.new_ _ _ _) (Un.one ⟨va, vc⟩) (by unfold maxLen; omega) (by omega) (by have h1 := hb2.size; simp only [World.size_alloc] at h1 ⊢; omega) ?_; intro A3 c3 w4 hown3 hg3 hb3)
         | (at_builtin; refine wpList_app rfl (.tmp 55) (.tmp 58) rfl EUn rfl rfl hown3 (m := US.length - a) (news := rc Un.cells (US.drop a)) (by rw [rc_length Un.len, List.length_drop]) (HS2.out _ (hb2.trans (((Below.refl _ _).alloc hb2.size _).trans hb3))) (by first | exact rc_one Un.one _ | (intro u hu; cases hu)) (by unfold maxLen; omega) (by omega) (by have h1 := hb2.size; have h2 := hb3.size; simp only [World.size_alloc] at h1 h2 ⊢; omega) ?_; intro A4 c4 w6 hown4 hg4 hb4)
         | fail)
        have hBf := since_step hBr ((hb2.trans (((Below.refl _ _).alloc hb2.size _).trans hb3)).trans hb4)
        have hown5 := own_base hown4 hBr.size
        have hln : US.length = a + US.length - a := by omega
        go_roundw
        case rel =>
         refine ⟨k + 1, A4, c4, by omega, by go_num, ?_, ?_, hBf⟩
         ·rw [HE.out]
          have e : (US.take a ++ (⟨va, vc⟩ : Un) :: US.drop a).length = a + 1 + (US.length - a) := by (simp; try omega)
          rw [e]
         ·rw [HE.out]
          have e : (US.take a ++ (⟨va, vc⟩ : Un) :: US.drop a).length = a + 1 + (US.length - a) := by (simp; try omega)
          rw [e, rc_append, rc_cons, ← List.append_assoc]
          simpa [Un.cells] using hown5
        case measure => simp [intOf]; omega
  ·obtain rfl : k = l.length := by omega
   rw [List.take_length] at hO ⊢
   go_wp2_with fail
   go_ret
   exact ⟨⟨A', c', rfl, hO⟩, hB⟩
end
end Go.Proofs.YtmjndpkfhdoljaaGreat
