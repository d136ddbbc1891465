import Derived.ChangeKeysEq
import Derived.Test.YtiggcpfmmgmncaaVp08
set_option maxHeartbeats 16000000
set_option maxRecDepth 100000
set_option linter.unusedVariables false
set_option linter.unusedSimpArgs false
namespace Go.Proofs.Ytiggcpfmmgmncaa
open Go.ChangeShapes Go.WideShapes Go.ChangeAt Go.RowKit
section
structure Fh where
  f : Fr
  A : Option Addr
  c : Nat
def Fh.cells (h : Fh) : List Value := [.int .i64 h.f.life, .int .i64 h.f.era, .int .i64 h.f.seq, .int .i64 h.f.part, .int .i64 h.f.parts, .slice h.A h.f.data.length h.c]
theorem Fh.len (h : Fh) : h.cells.length = 6 := rfl
theorem Fh.one (h : Fh) : ∀ u ∈ h.cells, u.oneCell' = true := by
  intro u hu
  simp only [Fh.cells, List.mem_cons, List.not_mem_nil, or_false] at hu
  rcases hu with h | h | h | h | h | h <;> subst h <;> rfl
def goodJ (f0 : Fr) (n i : Nat) (f : Fr) : Bool := f.ok && (decide (f.life = f0.life ∧ f.era = f0.era ∧ f.seq = f0.seq ∧ f.parts = f0.parts) && (decide (f.part = (i : Int)) && !(decide (i + 1 < n) && !decide (f.data.length = 80))))
def allJ (f0 : Fr) (n : Nat) : Nat → List Fr → Bool
  | _, [] => true
  | i, f :: l => goodJ f0 n i f && allJ f0 n (i + 1) l
def dataJ (l : List Fr) : List Nat := (l.map Fr.data).flatten
def joinF : List Fr → List Nat × Bool
  | [] => ([], false)
  | f :: l => if decide ((((f :: l).length : Nat) : Int) = f.parts) && allJ f (f :: l).length 0 (f :: l) then (dataJ (f :: l), true) else ([], false)
theorem dataJ_take {l : List Fr} {k : Nat} (h : k < l.length) : dataJ (l.take (k + 1)) = dataJ (l.take k) ++ l[k].data := by
  unfold dataJ
  rw [List.take_succ_eq_append_getElem h, List.map_append, List.flatten_append]; simp
theorem dataJ_len {l : List Fr} {m : Nat} (h : ∀ f ∈ l, f.data.length ≤ m) : (dataJ l).length ≤ m * l.length := by
  induction l with
  | nil => simp [dataJ]
  | cons f l ih =>
    have h1 := h f (by simp)
    have h2 := ih fun x hx => h x (by simp [hx])
    unfold dataJ at *
    rw [List.map_cons, List.flatten_cons, List.length_append, List.length_cons, Nat.mul_add]; omega
theorem allJ_iff (f0 : Fr) (n : Nat) : ∀ (l : List Fr) (i : Nat), allJ f0 n i l = true ↔ ∀ j, (hj : j < l.length) → goodJ f0 n (i + j) l[j] = true
  | [], i => by simp [allJ]
  | f :: l, i => by
    unfold allJ
    rw [Bool.and_eq_true, allJ_iff f0 n l (i + 1)]
    constructor
    · rintro ⟨h1, h2⟩ j hj
      cases j with
      | zero => exact h1
      | succ j => have := h2 j (by simpa using hj); rw [show i + 1 + j = i + (j + 1) by omega] at this; exact this
    · intro h
      refine ⟨h 0 (by simp), fun j hj => ?_⟩
      have := h (j + 1) (by simpa using hj)
      rw [show i + (j + 1) = i + 1 + j by omega] at this
      exact this
theorem joinF_parts {L : List Fr} {f0 : Fr} (h0 : L[0]? = some f0) (h : ((L.length : Nat) : Int) ≠ f0.parts) : joinF L = ([], false) := by
  cases L with
  | nil => simp at h0
  | cons f l =>
    obtain rfl : f = f0 := by simpa using h0
    rw [joinF, if_neg]; simp only [Bool.and_eq_true, decide_eq_true_eq, not_and]; intro e; exact absurd e h
theorem joinF_bad {L : List Fr} {f0 f : Fr} {k : Nat} (h0 : L[0]? = some f0) (hk : L[k]? = some f) (h : goodJ f0 L.length k f = false) : joinF L = ([], false) := by
  cases L with
  | nil => simp at h0
  | cons f1 l =>
    obtain rfl : f1 = f0 := by simpa using h0
    have h2 : allJ f1 (f1 :: l).length 0 (f1 :: l) = false := by
      rw [← Bool.not_eq_true, allJ_iff]
      intro e
      obtain ⟨hk1, hk2⟩ := List.getElem?_eq_some_iff.1 hk
      have := e k hk1
      rw [Nat.zero_add, hk2] at this
      rw [h] at this; cases this
    rw [joinF, if_neg]; rw [h2]; simp
theorem joinF_good {L : List Fr} {f0 : Fr} (h0 : L[0]? = some f0) (hp : ((L.length : Nat) : Int) = f0.parts) (h : ∀ j f, L[j]? = some f → goodJ f0 L.length j f = true) : joinF L = (dataJ L, true) := by
  cases L with
  | nil => simp at h0
  | cons f1 l =>
    obtain rfl : f1 = f0 := by simpa using h0
    have h2 : allJ f1 (f1 :: l).length 0 (f1 :: l) = true := (allJ_iff _ _ _ _).2 fun j hj => by rw [Nat.zero_add]; exact h j _ (List.getElem?_eq_getElem hj)
    rw [joinF, if_pos]; rw [h2, Bool.and_true]; exact decide_eq_true hp
theorem record7_any (f : Fr) (A : Option Addr) (c : Nat) (w : World) :
    Calls Try.prog 103 #[f.val A c] w fun e w' => e = .returned (.agg #[.int .i64 f.life, .int .i64 f.era, .int .i64 f.seq, .int .i64 f.parts]) ∧ Below w.heap.size w w' := by
  unfold Fr.val
  generalize f.data.length = n at *
  go_enter Try.func103, Try.ntmps103
  go_wp2_with fail
  refine bodyPost_ret (v := .agg #[.int .i64 f.life, .int .i64 f.era, .int .i64 f.seq, .int .i64 f.parts]) ?_ rfl ⟨rfl, since_alloc (since_alloc (Below.refl _ _) _) _⟩
  simp [results, Try.results103, go_sem]
theorem arr4_eq (a b c d a' b' c' d' : Int) (w : World) : (Op.equalIn 10000 161 (.agg #[.int .i64 a, .int .i64 b, .int .i64 c, .int .i64 d]) (.agg #[.int .i64 a', .int .i64 b', .int .i64 c', .int .i64 d'])).run Try.prog w = .ok (decide (a = a' ∧ b = b' ∧ c = c' ∧ d = d')) w := by
  obtain ⟨i, hi⟩ := Option.isSome_iff_exists.1 (show (Try.prog.info? 3).isSome = true by kernel_rfl)
  have h1 := Go.run_equalIn_array (P := Try.prog) (w := w) 9999 (t := 161) (e := 3) (n := 4) #[.int .i64 a, .int .i64 b, .int .i64 c, .int .i64 d] #[.int .i64 a', .int .i64 b', .int .i64 c', .int .i64 d'] (by kernel_rfl) hi
  rw [h1, show List.range 4 = [0, 1, 2, 3] from rfl, show Try.prog.cellsOf 3 = 1 by kernel_rfl]
  simp [Op.eqItems, go_sem]
  by_cases q1 : a = a' <;> by_cases q2 : b = b' <;> by_cases q3 : c = c' <;> by_cases q4 : d = d' <;> simp [q1, q2, q3, q4]
theorem Sl.fh {w : World} {A : Option Addr} {l : List Fh} (h : Sl w A (rc Fh.cells l)) {k : Nat} (hk : k < l.length) : ∃ b o, A = some ⟨b, o, none⟩ ∧ b < w.heap.size ∧ w.cell? ⟨b, o + k * 6, none⟩ = some (.int .i64 l[k].f.life) ∧ w.cell? ⟨b, o + k * 6 + 1, none⟩ = some (.int .i64 l[k].f.era) ∧ w.cell? ⟨b, o + k * 6 + 2, none⟩ = some (.int .i64 l[k].f.seq) ∧ w.cell? ⟨b, o + k * 6 + 3, none⟩ = some (.int .i64 l[k].f.part) ∧ w.cell? ⟨b, o + k * 6 + 4, none⟩ = some (.int .i64 l[k].f.parts) ∧ w.cell? ⟨b, o + k * 6 + 5, none⟩ = some (.slice l[k].A l[k].f.data.length l[k].c) := by
  obtain ⟨b, o, hA, hb, hc⟩ := Sl.elem (m := 6) Fh.len (by decide) h hk
  exact ⟨b, o, hA, hb, hc 0 _ rfl, hc 1 _ rfl, hc 2 _ rfl, hc 3 _ rfl, hc 4 _ rfl, hc 5 _ rfl⟩
theorem ways7 (f f0 : Fr) (k n : Nat) : (f.ok = false) ∨ (f.ok = true ∧ ¬ (f.life = f0.life ∧ f.era = f0.era ∧ f.seq = f0.seq ∧ f.parts = f0.parts)) ∨ (f.ok = true ∧ (f.life = f0.life ∧ f.era = f0.era ∧ f.seq = f0.seq ∧ f.parts = f0.parts) ∧ ¬ f.part = (k : Int)) ∨ (f.ok = true ∧ (f.life = f0.life ∧ f.era = f0.era ∧ f.seq = f0.seq ∧ f.parts = f0.parts) ∧ f.part = (k : Int) ∧ k + 1 < n ∧ ¬ f.data.length = 80) ∨ (f.ok = true ∧ (f.life = f0.life ∧ f.era = f0.era ∧ f.seq = f0.seq ∧ f.parts = f0.parts) ∧ f.part = (k : Int) ∧ k + 1 < n ∧ f.data.length = 80) ∨ (f.ok = true ∧ (f.life = f0.life ∧ f.era = f0.era ∧ f.seq = f0.seq ∧ f.parts = f0.parts) ∧ f.part = (k : Int) ∧ ¬ k + 1 < n) := by
  cases h1 : f.ok with
  | false => exact .inl rfl
  | true =>
    by_cases h2 : f.life = f0.life ∧ f.era = f0.era ∧ f.seq = f0.seq ∧ f.parts = f0.parts
    · by_cases h3 : f.part = (k : Int)
      · by_cases h4 : k + 1 < n
        · by_cases h5 : f.data.length = 80
          · exact .inr (.inr (.inr (.inr (.inl ⟨rfl, h2, h3, h4, h5⟩))))
          · exact .inr (.inr (.inr (.inl ⟨rfl, h2, h3, h4, h5⟩)))
        · exact .inr (.inr (.inr (.inr (.inr ⟨rfl, h2, h3, h4⟩))))
      · exact .inr (.inr (.inl ⟨rfl, h2, h3⟩))
    · exact .inr (.inl ⟨rfl, h2⟩)
theorem fjoin7_any (B : Option Addr) (cap : Nat) (H : List Fh) (w : World) (hl : H.length ≤ 1000) (hs : Sl w B (rc Fh.cells H)) (hd : ∀ h ∈ H, Sl w h.A (by8 h.f.data) ∧ h.f.data.length ≤ 100000) :
    Calls Try.prog 98 #[.slice B H.length cap] w fun e w' => (∃ A' c', e = .returned (.tuple #[.slice A' (joinF (H.map Fh.f)).1.length c', .bool (joinF (H.map Fh.f)).2]) ∧ w'.ownsRow w.heap.size 5 1 (.slice A' (joinF (H.map Fh.f)).1.length c') (joinF (H.map Fh.f)).1.length (by8 (joinF (H.map Fh.f)).1)) ∧ Below w.heap.size w w' := by
  by_cases h0 : 0 < H.length
  · obtain ⟨b, o, rfl, hb, q0, q1, q2, q3, q4, q5⟩ := hs.fh h0
    obtain ⟨x0, hx0⟩ : ∃ x, H[0] = x := ⟨_, rfl⟩
    rw [hx0] at q0 q1 q2 q3 q4 q5
    simp only [Nat.zero_mul, Nat.add_zero] at q0 q1 q2 q3 q4 q5
    by_cases hp : ((H.length : Nat) : Int) = x0.f.parts
    · have hln : ((H.length : Int) == 0) = false := beq_eq_false_iff_ne.2 (by omega)
      have hlp : ((H.length : Int) != x0.f.parts) = false := by rw [hp]; simp
      have H0 := Lib.hid h0
      have HP := Lib.hid hp
      clear hp
      go_enter Try.func98, Try.ntmps98
      go_wp2_with fail
      have HS := Lib.hid hs
      have HD := Lib.hid hd
      have HBLT := Lib.hid hb
      have HQ := Lib.hid (And.intro q0 (And.intro q1 (And.intro q2 (And.intro q3 (And.intro q4 q5)))))
      have HZ0 : Hid ((H.map Fh.f)[0]? = some x0.f) := Lib.hid (by rw [List.getElem?_map, List.getElem?_eq_getElem h0, hx0]; rfl)
      obtain ⟨n, hn⟩ : ∃ n, H.length = n := ⟨_, rfl⟩
      have HN := Lib.hid hn
      rw [hn] at hl HP ⊢
      clear hs hd hb q0 q1 q2 q3 q4 q5 hx0 hn hln hlp
      go_loopw [4, 21] (fun bv iv wr => ∃ (k : Nat) (A2 : Option Addr) (c2 : Nat), k ≤ n ∧ bv = .slice A2 (dataJ ((H.map Fh.f).take k)).length c2 ∧ iv = .int .i64 k ∧ wr.ownsRow w.heap.size 5 1 (.slice A2 (dataJ ((H.map Fh.f).take k)).length c2) (dataJ ((H.map Fh.f).take k)).length (by8 (dataJ ((H.map Fh.f).take k))) ∧ (∀ j f, (H.map Fh.f)[j]? = some f → j < k → goodJ x0.f n j f = true) ∧ Below w.heap.size w wr) (fun _ iv _ => n - (intOf iv).toNat)
      case atStart => exact ⟨0, none, 0, Nat.zero_le _, rfl, rfl, own_nil _ _ _, (fun j f hj h => absurd h (by omega)), Below.refl _ _⟩
      case round =>
        obtain ⟨k, A2, c2, hk, rfl, rfl, own2, hag, hB⟩ := hrel
        have HA := Lib.hid hag
        clear hag
        by_cases hlt : k < n
        · have hltH : k < H.length := by rw [HN.out]; exact hlt
          obtain ⟨b', o', hA', hb', g0, g1, g2, g3, g4, g5⟩ := (HS.out.below hB).fh hltH
          injection hA' with hA'
          injection hA' with hA1 hA2
          subst hA1; subst hA2
          clear hb'
          have hdat := HD.out H[k] (List.getElem_mem hltH)
          have hdt : dataJ ((H.map Fh.f).take (k + 1)) = dataJ ((H.map Fh.f).take k) ++ H[k].f.data := by
            rw [dataJ_take (by simpa using hltH)]; simp
          have hpl : (dataJ ((H.map Fh.f).take k)).length ≤ 100000000 := by
            have h1 := dataJ_len (l := (H.map Fh.f).take k) (m := 100000) fun f hf => by
              obtain ⟨x, hx, rfl⟩ := List.mem_map.1 (List.mem_of_mem_take hf)
              exact (HD.out x hx).2
            rw [List.length_take] at h1
            have h2 : min k (H.map Fh.f).length ≤ 1000 := by rw [List.length_map, HN.out]; omega
            have h3 := Nat.mul_le_mul_left 100000 h2
            omega
          have hkL : (H.map Fh.f)[k]? = some H[k].f := by rw [List.getElem?_map, List.getElem?_eq_getElem hltH]; rfl
          obtain ⟨x, hx⟩ : ∃ x, H[k] = x := ⟨_, rfl⟩
          rw [hx] at g0 g1 g2 g3 g4 g5 hdat hdt hkL
          have HGO : Hid (goodJ x0.f n k x.f = true → ∀ j f, (H.map Fh.f)[j]? = some f → j < k + 1 → goodJ x0.f n j f = true) := Lib.hid fun hg j f hj hjk => by
            rcases Nat.lt_or_ge j k with h | h
            · exact HA.out j f hj h
            · obtain rfl : j = k := by omega
              rw [hkL] at hj
              injection hj with hj
              rw [← hj]
              exact hg
          have HBA : Hid (goodJ x0.f n k x.f = false → joinF (H.map Fh.f) = ([], false)) := Lib.hid fun hg => joinF_bad (k := k) HZ0.out hkL (by rw [List.length_map, HN.out]; exact hg)
          clear hkL hx
          obtain ⟨⟨life, era, seq, part, parts, D⟩, fA, fc⟩ := x
          obtain ⟨⟨l0, e0, s0, p0, r0, D0⟩, fA0, fc0⟩ := x0
          simp only at g0 g1 g2 g3 g4 g5 hdat hdt HGO HBA
          have hd0 := hdat.2
          have hd1 := hdat.1.below hB
          obtain ⟨dl, hdl⟩ : ∃ m, D.length = m := ⟨_, rfl⟩
          have HDL := Lib.hid hdl
          rw [hdl] at g5 hd0
          obtain ⟨P, hP⟩ : ∃ P, dataJ ((H.map Fh.f).take k) = P := ⟨_, rfl⟩
          rw [hP] at own2 hpl hdt ⊢
          have HDT := Lib.hid hdt
          clear hdt hP hdat hdl
          have hkn0 : (k : Int) < (n : Int) := by omega
          have hbr : b < wr.heap.size := Nat.lt_of_lt_of_le HBLT.out hB.size
          have y0 := (hB.cell (p := ⟨b, o, none⟩) HBLT.out).trans HQ.out.1
          have y1 := (hB.cell (p := ⟨b, o + 1, none⟩) HBLT.out).trans HQ.out.2.1
          have y2 := (hB.cell (p := ⟨b, o + 2, none⟩) HBLT.out).trans HQ.out.2.2.1
          have y3 := (hB.cell (p := ⟨b, o + 3, none⟩) HBLT.out).trans HQ.out.2.2.2.1
          have y4 := (hB.cell (p := ⟨b, o + 4, none⟩) HBLT.out).trans HQ.out.2.2.2.2.1
          have y5 := (hB.cell (p := ⟨b, o + 5, none⟩) HBLT.out).trans HQ.out.2.2.2.2.2
          simp only at y0 y1 y2 y3 y4 y5
          have HY := Lib.hid (And.intro y0 (And.intro y1 (And.intro y2 (And.intro y3 (And.intro y4 y5)))))
          clear y0 y1 y2 y3 y4 y5
          have HBR := Lib.hid hbr
          have hw64 : (0 : Int) ≤ (k : Int) := by omega
          have hn0 : 0 < n := by omega
          go_wp2_with fail
          generalize hWW : wr.alloc (.cells #[.int .i64 life, .int .i64 era, .int .i64 seq, .int .i64 part, .int .i64 parts, .slice fA dl fc] 130) = W at *
          have HBW : Hid (Below w.heap.size w W) := Lib.hid (by rw [← hWW]; exact since_alloc hB _)
          have HWL : Hid (wr.heap.size < W.heap.size) := Lib.hid (by rw [← hWW, World.size_alloc]; omega)
          have ownW : W.ownsRow w.heap.size 5 1 (.slice A2 P.length c2) P.length (by8 P) := by rw [← hWW]; exact own2.alloc _
          have HBF : Hid (∀ V, Below W.heap.size W V → V.cell? ⟨wr.heap.size, 0, none⟩ = some (.int .i64 life) ∧ V.cell? ⟨wr.heap.size, 1, none⟩ = some (.int .i64 era) ∧ V.cell? ⟨wr.heap.size, 2, none⟩ = some (.int .i64 seq) ∧ V.cell? ⟨wr.heap.size, 3, none⟩ = some (.int .i64 part) ∧ V.cell? ⟨wr.heap.size, 4, none⟩ = some (.int .i64 parts) ∧ V.cell? ⟨wr.heap.size, 5, none⟩ = some (.slice fA dl fc)) := Lib.hid (by rw [← hWW]; exact fun V hV => box6 hV)
          have HL0 : Hid (∀ V, Below W.heap.size W V → V.cell? ⟨b, o, none⟩ = some (.int .i64 l0) ∧ V.cell? ⟨b, o + 1, none⟩ = some (.int .i64 e0) ∧ V.cell? ⟨b, o + 2, none⟩ = some (.int .i64 s0) ∧ V.cell? ⟨b, o + 3, none⟩ = some (.int .i64 p0) ∧ V.cell? ⟨b, o + 4, none⟩ = some (.int .i64 r0) ∧ V.cell? ⟨b, o + 5, none⟩ = some (.slice fA0 D0.length fc0)) := Lib.hid fun V hV => by
            have hWV : Below wr.heap.size wr V := ((Below.refl _ wr).alloc (Nat.le_refl _) _).trans ((by rw [hWW]; exact hV.mono (Nat.le_of_lt HWL.out) : Below wr.heap.size (wr.alloc (.cells #[.int .i64 life, .int .i64 era, .int .i64 seq, .int .i64 part, .int .i64 parts, .slice fA dl fc] 130)) V))
            exact ⟨(hWV.cell (p := ⟨b, o, none⟩) HBR.out).trans HY.out.1, (hWV.cell (p := ⟨b, o + 1, none⟩) HBR.out).trans HY.out.2.1, (hWV.cell (p := ⟨b, o + 2, none⟩) HBR.out).trans HY.out.2.2.1, (hWV.cell (p := ⟨b, o + 3, none⟩) HBR.out).trans HY.out.2.2.2.1, (hWV.cell (p := ⟨b, o + 4, none⟩) HBR.out).trans HY.out.2.2.2.2.1, (hWV.cell (p := ⟨b, o + 5, none⟩) HBR.out).trans HY.out.2.2.2.2.2⟩
          have HSD : Hid (∀ V, Below W.heap.size W V → Sl V fA (by8 D)) := Lib.hid fun V hV => by
            have hWV : Below wr.heap.size wr V := ((Below.refl _ wr).alloc (Nat.le_refl _) _).trans ((by rw [hWW]; exact hV.mono (Nat.le_of_lt HWL.out) : Below wr.heap.size (wr.alloc (.cells #[.int .i64 life, .int .i64 era, .int .i64 seq, .int .i64 part, .int .i64 parts, .slice fA dl fc] 130)) V))
            exact hd1.below hWV
          have HR1 : Hid (∀ V, Calls Try.prog 103 #[.agg #[.int .i64 life, .int .i64 era, .int .i64 seq, .int .i64 part, .int .i64 parts, .slice fA dl fc]] V fun e w' => e = .returned (.agg #[.int .i64 life, .int .i64 era, .int .i64 seq, .int .i64 parts]) ∧ Below V.heap.size V w') := Lib.hid fun V => by
            have h := record7_any ⟨life, era, seq, part, parts, D⟩ fA fc V
            unfold Fr.val at h
            simp only at h
            rw [HDL.out] at h
            exact h
          have HR2 : Hid (∀ V, Calls Try.prog 103 #[.agg #[.int .i64 l0, .int .i64 e0, .int .i64 s0, .int .i64 p0, .int .i64 r0, .slice fA0 D0.length fc0]] V fun e w' => e = .returned (.agg #[.int .i64 l0, .int .i64 e0, .int .i64 s0, .int .i64 r0]) ∧ Below V.heap.size V w') := Lib.hid fun V => by
            have h := record7_any ⟨l0, e0, s0, p0, r0, D0⟩ fA0 fc0 V
            unfold Fr.val at h
            simp only at h
            exact h
          clear hWW g0 g1 g2 g3 g4 g5 hbr own2 hd1
          have hk64 : IntKind.i64.wrap ((n : Int) - 1) = (n : Int) - 1 := IntWalk.i64_in _ (by omega)
          rcases ways7 ⟨life, era, seq, part, parts, D⟩ ⟨l0, e0, s0, p0, r0, D0⟩ k n with h1 | h1 | h1 | h1 | h1 | h1
          · have hgj : goodJ ⟨l0, e0, s0, p0, r0, D0⟩ n k ⟨life, era, seq, part, parts, D⟩ = false := by
              unfold goodJ
              simp only
              rw [h1]; rfl
            have HJ := Lib.hid (HBA.out hgj)
            clear hgj HGO HBA
            have HFIT : Hid (∀ V, Calls Try.prog 93 #[.agg #[.int .i64 life, .int .i64 era, .int .i64 seq, .int .i64 part, .int .i64 parts, .slice fA dl fc]] V fun e w' => e = .returned (.bool false) ∧ Below V.heap.size V w') := Lib.hid fun V => by
              have h := fit7_any ⟨life, era, seq, part, parts, D⟩ fA fc V
              unfold Fr.val at h
              simp only at h
              rw [HDL.out, h1] at h
              exact h
            clear h1
            refine wp_region_held_drew (S := (fun V' => Below W.heap.size W V')) (by kernel_rfl) (by exact (Below.refl _ _).drew) (fun hHeld => ?_)
            refine tkI 0 26 rfl (by intro w hSw; obtain ⟨z0, z1, z2, z3, z4, z5⟩ := HBF.out _ hSw; obtain ⟨q0, q1, q2, q3, q4, q5⟩ := HL0.out _ hSw; go_simp <;> with_reducible rfl) hHeld ?_; simp only [pqZ]
            refine rdZ 1 27 rfl (by kernel_rfl) (fun K hK => ?_)
            go_simp
            refine (HFIT.out _).mono ?_
            rintro e x1 ⟨rfl, hk1⟩
            have hKeep := since_step hHeld hk1
            go_wp2_with fail
            refine hK.out _ _ (by (try dsimp only); exact hKeep) (fun hHeld => ?_); clear hK K hKeep; try simp only [pqZ]
            refine tkI 2 28 rfl (by intro w hSw; obtain ⟨z0, z1, z2, z3, z4, z5⟩ := HBF.out _ hSw; obtain ⟨q0, q1, q2, q3, q4, q5⟩ := HL0.out _ hSw; go_simp <;> with_reducible rfl) hHeld ?_; simp only [pqZ]
            refine tkI 3 29 rfl (by intro w hSw; obtain ⟨z0, z1, z2, z3, z4, z5⟩ := HBF.out _ hSw; obtain ⟨q0, q1, q2, q3, q4, q5⟩ := HL0.out _ hSw; go_simp <;> with_reducible rfl) hHeld ?_; simp only [pqZ]
            refine tkO 4 30 rfl (by kernel_rfl) (by rfl) hHeld ?_; simp only [pqZ]
            refine tkO 5 31 rfl (by kernel_rfl) (by rfl) hHeld ?_; simp only [pqZ]
            refine tkO 6 32 rfl (by kernel_rfl) (by rfl) hHeld ?_; simp only [pqZ]
            refine tkO 7 33 rfl (by kernel_rfl) (by rfl) hHeld ?_; simp only [pqZ]
            refine tkO 8 34 rfl (by kernel_rfl) (by rfl) hHeld ?_; simp only [pqZ]
            refine tkO 9 35 rfl (by kernel_rfl) (by rfl) hHeld ?_; simp only [pqZ]
            refine tkO 10 36 rfl (by kernel_rfl) (by rfl) hHeld ?_; simp only [pqZ]
            refine tkI 11 37 rfl (by intro w hSw; obtain ⟨z0, z1, z2, z3, z4, z5⟩ := HBF.out _ hSw; obtain ⟨q0, q1, q2, q3, q4, q5⟩ := HL0.out _ hSw; go_simp <;> with_reducible rfl) hHeld ?_; simp only [pqZ]
            refine tkI 12 38 rfl (by intro w hSw; obtain ⟨z0, z1, z2, z3, z4, z5⟩ := HBF.out _ hSw; obtain ⟨q0, q1, q2, q3, q4, q5⟩ := HL0.out _ hSw; go_simp <;> with_reducible rfl) hHeld ?_; simp only [pqZ]
            refine tkO 13 39 rfl (by kernel_rfl) (by rfl) hHeld ?_; simp only [pqZ]
            refine tkO 14 40 rfl (by kernel_rfl) (by rfl) hHeld ?_; simp only [pqZ]
            refine tkO 15 41 rfl (by kernel_rfl) (by rfl) hHeld ?_; simp only [pqZ]
            refine tkO 16 42 rfl (by kernel_rfl) (by rfl) hHeld ?_; simp only [pqZ]
            refine tkI 17 43 rfl (by intro w hSw; obtain ⟨z0, z1, z2, z3, z4, z5⟩ := HBF.out _ hSw; obtain ⟨q0, q1, q2, q3, q4, q5⟩ := HL0.out _ hSw; go_simp <;> with_reducible rfl) hHeld ?_; simp only [pqZ]
            refine tkI 18 44 rfl (by intro w hSw; obtain ⟨z0, z1, z2, z3, z4, z5⟩ := HBF.out _ hSw; obtain ⟨q0, q1, q2, q3, q4, q5⟩ := HL0.out _ hSw; go_simp <;> with_reducible rfl) hHeld ?_; simp only [pqZ]
            refine tkO 19 45 rfl (by kernel_rfl) (by rfl) hHeld ?_; simp only [pqZ]
            refine tkO 20 46 rfl (by kernel_rfl) (by rfl) hHeld ?_; simp only [pqZ]
            refine tkO 21 47 rfl (by kernel_rfl) (by rfl) hHeld ?_; simp only [pqZ]
            refine tkO 22 48 rfl (by kernel_rfl) (by rfl) hHeld ?_; simp only [pqZ]
            refine tkO 23 49 rfl (by kernel_rfl) (by rfl) hHeld ?_; simp only [pqZ]
            refine tkO 24 50 rfl (by kernel_rfl) (by rfl) hHeld ?_; simp only [pqZ]
            refine tkO 25 51 rfl (by kernel_rfl) (by rfl) hHeld ?_; simp only [pqZ]
            refine tkO 26 52 rfl (by kernel_rfl) (by rfl) hHeld ?_; simp only [pqZ]
            refine tkO 27 53 rfl (by kernel_rfl) (by rfl) hHeld ?_; simp only [pqZ]
            refine tkO 28 54 rfl (by kernel_rfl) (by rfl) hHeld ?_; simp only [pqZ]
            refine tkO 29 55 rfl (by kernel_rfl) (by rfl) hHeld ?_; simp only [pqZ]
            refine tkI 30 56 rfl (by intro w hSw; obtain ⟨z0, z1, z2, z3, z4, z5⟩ := HBF.out _ hSw; obtain ⟨q0, q1, q2, q3, q4, q5⟩ := HL0.out _ hSw; go_simp <;> with_reducible rfl) hHeld ?_; simp only [pqZ]
            refine wpAnyH_done (by kernel_rfl) ?_ _
            have hBf := HBW.out.trans (hHeld.mono HBW.out.size)
            go_wp2_with fail
            go_ret2
            rw [HJ.out]
            exact ⟨⟨none, 0, rfl, own_nil _ _ _⟩, hBf⟩
          · have hgj : goodJ ⟨l0, e0, s0, p0, r0, D0⟩ n k ⟨life, era, seq, part, parts, D⟩ = false := by
              unfold goodJ
              simp only
              rw [h1.1, decide_eq_false h1.2]; rfl
            have HJ := Lib.hid (HBA.out hgj)
            clear hgj HGO HBA
            have HFIT : Hid (∀ V, Calls Try.prog 93 #[.agg #[.int .i64 life, .int .i64 era, .int .i64 seq, .int .i64 part, .int .i64 parts, .slice fA dl fc]] V fun e w' => e = .returned (.bool true) ∧ Below V.heap.size V w') := Lib.hid fun V => by
              have h := fit7_any ⟨life, era, seq, part, parts, D⟩ fA fc V
              unfold Fr.val at h
              simp only at h
              rw [HDL.out, h1.1] at h
              exact h
            have hrec : ∀ V, (Op.equalIn 10000 161 (.agg #[.int .i64 life, .int .i64 era, .int .i64 seq, .int .i64 parts]) (.agg #[.int .i64 l0, .int .i64 e0, .int .i64 s0, .int .i64 r0])).run Try.prog V = .ok false V := fun V => by rw [arr4_eq, decide_eq_false h1.2]
            clear h1
            refine wp_region_held_drew (S := (fun V' => Below W.heap.size W V')) (by kernel_rfl) (by exact (Below.refl _ _).drew) (fun hHeld => ?_)
            refine tkI 0 26 rfl (by intro w hSw; obtain ⟨z0, z1, z2, z3, z4, z5⟩ := HBF.out _ hSw; obtain ⟨q0, q1, q2, q3, q4, q5⟩ := HL0.out _ hSw; go_simp <;> with_reducible rfl) hHeld ?_; simp only [pqZ]
            refine rdZ 1 27 rfl (by kernel_rfl) (fun K hK => ?_)
            go_simp
            refine (HFIT.out _).mono ?_
            rintro e x1 ⟨rfl, hk1⟩
            have hKeep := since_step hHeld hk1
            go_wp2_with fail
            refine hK.out _ _ (by (try dsimp only); exact hKeep) (fun hHeld => ?_); clear hK K hKeep; try simp only [pqZ]
            refine tkI 2 28 rfl (by intro w hSw; obtain ⟨z0, z1, z2, z3, z4, z5⟩ := HBF.out _ hSw; obtain ⟨q0, q1, q2, q3, q4, q5⟩ := HL0.out _ hSw; go_simp <;> with_reducible rfl) hHeld ?_; simp only [pqZ]
            refine tkI 3 29 rfl (by intro w hSw; obtain ⟨z0, z1, z2, z3, z4, z5⟩ := HBF.out _ hSw; obtain ⟨q0, q1, q2, q3, q4, q5⟩ := HL0.out _ hSw; go_simp <;> with_reducible rfl) hHeld ?_; simp only [pqZ]
            refine tkI 4 30 rfl (by intro w hSw; obtain ⟨z0, z1, z2, z3, z4, z5⟩ := HBF.out _ hSw; obtain ⟨q0, q1, q2, q3, q4, q5⟩ := HL0.out _ hSw; go_simp <;> with_reducible rfl) hHeld ?_; simp only [pqZ]
            refine tkI 6 32 rfl (by intro w hSw; obtain ⟨z0, z1, z2, z3, z4, z5⟩ := HBF.out _ hSw; obtain ⟨q0, q1, q2, q3, q4, q5⟩ := HL0.out _ hSw; go_simp <;> with_reducible rfl) hHeld ?_; simp only [pqZ]
            refine tkI 7 33 rfl (by intro w hSw; obtain ⟨z0, z1, z2, z3, z4, z5⟩ := HBF.out _ hSw; obtain ⟨q0, q1, q2, q3, q4, q5⟩ := HL0.out _ hSw; go_simp <;> with_reducible rfl) hHeld ?_; simp only [pqZ]
            refine tkI 8 34 rfl (by intro w hSw; obtain ⟨z0, z1, z2, z3, z4, z5⟩ := HBF.out _ hSw; obtain ⟨q0, q1, q2, q3, q4, q5⟩ := HL0.out _ hSw; go_simp <;> with_reducible rfl) hHeld ?_; simp only [pqZ]
            refine rdZ 5 31 rfl (by kernel_rfl) (fun K hK => ?_)
            go_simp
            refine (HR1.out _).mono ?_
            rintro e x2 ⟨rfl, hk2⟩
            have hKeep := since_step hHeld hk2
            go_wp2_with fail
            refine hK.out _ _ (by (try dsimp only); exact hKeep) (fun hHeld => ?_); clear hK K hKeep; try simp only [pqZ]
            refine rdZ 9 35 rfl (by kernel_rfl) (fun K hK => ?_)
            go_simp
            refine (HR2.out _).mono ?_
            rintro e x3 ⟨rfl, hk3⟩
            have hKeep := since_step hHeld hk3
            go_wp2_with fail
            refine hK.out _ _ (by (try dsimp only); exact hKeep) (fun hHeld => ?_); clear hK K hKeep; try simp only [pqZ]
            refine tkI 10 36 rfl (by intro w hSw; obtain ⟨z0, z1, z2, z3, z4, z5⟩ := HBF.out _ hSw; obtain ⟨q0, q1, q2, q3, q4, q5⟩ := HL0.out _ hSw; go_simp <;> with_reducible rfl) hHeld ?_; simp only [pqZ]
            refine tkI 11 37 rfl (by intro w hSw; obtain ⟨z0, z1, z2, z3, z4, z5⟩ := HBF.out _ hSw; obtain ⟨q0, q1, q2, q3, q4, q5⟩ := HL0.out _ hSw; go_simp <;> with_reducible rfl) hHeld ?_; simp only [pqZ]
            refine tkI 12 38 rfl (by intro w hSw; obtain ⟨z0, z1, z2, z3, z4, z5⟩ := HBF.out _ hSw; obtain ⟨q0, q1, q2, q3, q4, q5⟩ := HL0.out _ hSw; go_simp <;> with_reducible rfl) hHeld ?_; simp only [pqZ]
            refine tkO 13 39 rfl (by kernel_rfl) (by rfl) hHeld ?_; simp only [pqZ]
            refine tkO 14 40 rfl (by kernel_rfl) (by rfl) hHeld ?_; simp only [pqZ]
            refine tkO 15 41 rfl (by kernel_rfl) (by rfl) hHeld ?_; simp only [pqZ]
            refine tkO 16 42 rfl (by kernel_rfl) (by rfl) hHeld ?_; simp only [pqZ]
            refine tkI 17 43 rfl (by intro w hSw; obtain ⟨z0, z1, z2, z3, z4, z5⟩ := HBF.out _ hSw; obtain ⟨q0, q1, q2, q3, q4, q5⟩ := HL0.out _ hSw; go_simp <;> with_reducible rfl) hHeld ?_; simp only [pqZ]
            refine tkI 18 44 rfl (by intro w hSw; obtain ⟨z0, z1, z2, z3, z4, z5⟩ := HBF.out _ hSw; obtain ⟨q0, q1, q2, q3, q4, q5⟩ := HL0.out _ hSw; go_simp <;> with_reducible rfl) hHeld ?_; simp only [pqZ]
            refine tkO 19 45 rfl (by kernel_rfl) (by rfl) hHeld ?_; simp only [pqZ]
            refine tkO 20 46 rfl (by kernel_rfl) (by rfl) hHeld ?_; simp only [pqZ]
            refine tkO 21 47 rfl (by kernel_rfl) (by rfl) hHeld ?_; simp only [pqZ]
            refine tkO 22 48 rfl (by kernel_rfl) (by rfl) hHeld ?_; simp only [pqZ]
            refine tkO 23 49 rfl (by kernel_rfl) (by rfl) hHeld ?_; simp only [pqZ]
            refine tkO 24 50 rfl (by kernel_rfl) (by rfl) hHeld ?_; simp only [pqZ]
            refine tkO 25 51 rfl (by kernel_rfl) (by rfl) hHeld ?_; simp only [pqZ]
            refine tkO 26 52 rfl (by kernel_rfl) (by rfl) hHeld ?_; simp only [pqZ]
            refine tkO 27 53 rfl (by kernel_rfl) (by rfl) hHeld ?_; simp only [pqZ]
            refine tkO 28 54 rfl (by kernel_rfl) (by rfl) hHeld ?_; simp only [pqZ]
            refine tkO 29 55 rfl (by kernel_rfl) (by rfl) hHeld ?_; simp only [pqZ]
            refine tkI 30 56 rfl (by intro w hSw; obtain ⟨z0, z1, z2, z3, z4, z5⟩ := HBF.out _ hSw; obtain ⟨q0, q1, q2, q3, q4, q5⟩ := HL0.out _ hSw; go_simp <;> with_reducible rfl) hHeld ?_; simp only [pqZ]
            refine wpAnyH_done (by kernel_rfl) ?_ _
            have hBf := HBW.out.trans (hHeld.mono HBW.out.size)
            go_wp2_with fail
            go_ret2
            rw [HJ.out]
            exact ⟨⟨none, 0, rfl, own_nil _ _ _⟩, hBf⟩
          · have hgj : goodJ ⟨l0, e0, s0, p0, r0, D0⟩ n k ⟨life, era, seq, part, parts, D⟩ = false := by
              unfold goodJ
              simp only
              rw [h1.1, decide_eq_true h1.2.1, decide_eq_false h1.2.2]; rfl
            have HJ := Lib.hid (HBA.out hgj)
            clear hgj HGO HBA
            have HFIT : Hid (∀ V, Calls Try.prog 93 #[.agg #[.int .i64 life, .int .i64 era, .int .i64 seq, .int .i64 part, .int .i64 parts, .slice fA dl fc]] V fun e w' => e = .returned (.bool true) ∧ Below V.heap.size V w') := Lib.hid fun V => by
              have h := fit7_any ⟨life, era, seq, part, parts, D⟩ fA fc V
              unfold Fr.val at h
              simp only at h
              rw [HDL.out, h1.1] at h
              exact h
            have hrec : ∀ V, (Op.equalIn 10000 161 (.agg #[.int .i64 life, .int .i64 era, .int .i64 seq, .int .i64 parts]) (.agg #[.int .i64 l0, .int .i64 e0, .int .i64 s0, .int .i64 r0])).run Try.prog V = .ok true V := fun V => by rw [arr4_eq, decide_eq_true h1.2.1]
            have hpn : (part != (k : Int)) = true := bne_iff_ne.2 h1.2.2
            clear h1
            refine wp_region_held_drew (S := (fun V' => Below W.heap.size W V')) (by kernel_rfl) (by exact (Below.refl _ _).drew) (fun hHeld => ?_)
            refine tkI 0 26 rfl (by intro w hSw; obtain ⟨z0, z1, z2, z3, z4, z5⟩ := HBF.out _ hSw; obtain ⟨q0, q1, q2, q3, q4, q5⟩ := HL0.out _ hSw; go_simp <;> with_reducible rfl) hHeld ?_; simp only [pqZ]
            refine rdZ 1 27 rfl (by kernel_rfl) (fun K hK => ?_)
            go_simp
            refine (HFIT.out _).mono ?_
            rintro e x1 ⟨rfl, hk1⟩
            have hKeep := since_step hHeld hk1
            go_wp2_with fail
            refine hK.out _ _ (by (try dsimp only); exact hKeep) (fun hHeld => ?_); clear hK K hKeep; try simp only [pqZ]
            refine tkI 2 28 rfl (by intro w hSw; obtain ⟨z0, z1, z2, z3, z4, z5⟩ := HBF.out _ hSw; obtain ⟨q0, q1, q2, q3, q4, q5⟩ := HL0.out _ hSw; go_simp <;> with_reducible rfl) hHeld ?_; simp only [pqZ]
            refine tkI 3 29 rfl (by intro w hSw; obtain ⟨z0, z1, z2, z3, z4, z5⟩ := HBF.out _ hSw; obtain ⟨q0, q1, q2, q3, q4, q5⟩ := HL0.out _ hSw; go_simp <;> with_reducible rfl) hHeld ?_; simp only [pqZ]
            refine tkI 4 30 rfl (by intro w hSw; obtain ⟨z0, z1, z2, z3, z4, z5⟩ := HBF.out _ hSw; obtain ⟨q0, q1, q2, q3, q4, q5⟩ := HL0.out _ hSw; go_simp <;> with_reducible rfl) hHeld ?_; simp only [pqZ]
            refine tkI 6 32 rfl (by intro w hSw; obtain ⟨z0, z1, z2, z3, z4, z5⟩ := HBF.out _ hSw; obtain ⟨q0, q1, q2, q3, q4, q5⟩ := HL0.out _ hSw; go_simp <;> with_reducible rfl) hHeld ?_; simp only [pqZ]
            refine tkI 7 33 rfl (by intro w hSw; obtain ⟨z0, z1, z2, z3, z4, z5⟩ := HBF.out _ hSw; obtain ⟨q0, q1, q2, q3, q4, q5⟩ := HL0.out _ hSw; go_simp <;> with_reducible rfl) hHeld ?_; simp only [pqZ]
            refine tkI 8 34 rfl (by intro w hSw; obtain ⟨z0, z1, z2, z3, z4, z5⟩ := HBF.out _ hSw; obtain ⟨q0, q1, q2, q3, q4, q5⟩ := HL0.out _ hSw; go_simp <;> with_reducible rfl) hHeld ?_; simp only [pqZ]
            refine rdZ 5 31 rfl (by kernel_rfl) (fun K hK => ?_)
            go_simp
            refine (HR1.out _).mono ?_
            rintro e x2 ⟨rfl, hk2⟩
            have hKeep := since_step hHeld hk2
            go_wp2_with fail
            refine hK.out _ _ (by (try dsimp only); exact hKeep) (fun hHeld => ?_); clear hK K hKeep; try simp only [pqZ]
            refine rdZ 9 35 rfl (by kernel_rfl) (fun K hK => ?_)
            go_simp
            refine (HR2.out _).mono ?_
            rintro e x3 ⟨rfl, hk3⟩
            have hKeep := since_step hHeld hk3
            go_wp2_with fail
            refine hK.out _ _ (by (try dsimp only); exact hKeep) (fun hHeld => ?_); clear hK K hKeep; try simp only [pqZ]
            refine tkI 10 36 rfl (by intro w hSw; obtain ⟨z0, z1, z2, z3, z4, z5⟩ := HBF.out _ hSw; obtain ⟨q0, q1, q2, q3, q4, q5⟩ := HL0.out _ hSw; go_simp <;> with_reducible rfl) hHeld ?_; simp only [pqZ]
            refine tkI 11 37 rfl (by intro w hSw; obtain ⟨z0, z1, z2, z3, z4, z5⟩ := HBF.out _ hSw; obtain ⟨q0, q1, q2, q3, q4, q5⟩ := HL0.out _ hSw; go_simp <;> with_reducible rfl) hHeld ?_; simp only [pqZ]
            refine tkI 12 38 rfl (by intro w hSw; obtain ⟨z0, z1, z2, z3, z4, z5⟩ := HBF.out _ hSw; obtain ⟨q0, q1, q2, q3, q4, q5⟩ := HL0.out _ hSw; go_simp <;> with_reducible rfl) hHeld ?_; simp only [pqZ]
            refine tkI 13 39 rfl (by intro w hSw; obtain ⟨z0, z1, z2, z3, z4, z5⟩ := HBF.out _ hSw; obtain ⟨q0, q1, q2, q3, q4, q5⟩ := HL0.out _ hSw; go_simp <;> with_reducible rfl) hHeld ?_; simp only [pqZ]
            refine tkI 14 40 rfl (by intro w hSw; obtain ⟨z0, z1, z2, z3, z4, z5⟩ := HBF.out _ hSw; obtain ⟨q0, q1, q2, q3, q4, q5⟩ := HL0.out _ hSw; go_simp <;> with_reducible rfl) hHeld ?_; simp only [pqZ]
            refine tkI 15 41 rfl (by intro w hSw; obtain ⟨z0, z1, z2, z3, z4, z5⟩ := HBF.out _ hSw; obtain ⟨q0, q1, q2, q3, q4, q5⟩ := HL0.out _ hSw; go_simp <;> with_reducible rfl) hHeld ?_; simp only [pqZ]
            refine tkI 16 42 rfl (by intro w hSw; obtain ⟨z0, z1, z2, z3, z4, z5⟩ := HBF.out _ hSw; obtain ⟨q0, q1, q2, q3, q4, q5⟩ := HL0.out _ hSw; go_simp <;> with_reducible rfl) hHeld ?_; simp only [pqZ]
            refine tkI 17 43 rfl (by intro w hSw; obtain ⟨z0, z1, z2, z3, z4, z5⟩ := HBF.out _ hSw; obtain ⟨q0, q1, q2, q3, q4, q5⟩ := HL0.out _ hSw; go_simp <;> with_reducible rfl) hHeld ?_; simp only [pqZ]
            refine tkI 18 44 rfl (by intro w hSw; obtain ⟨z0, z1, z2, z3, z4, z5⟩ := HBF.out _ hSw; obtain ⟨q0, q1, q2, q3, q4, q5⟩ := HL0.out _ hSw; go_simp <;> with_reducible rfl) hHeld ?_; simp only [pqZ]
            refine tkO 19 45 rfl (by kernel_rfl) (by rfl) hHeld ?_; simp only [pqZ]
            refine tkO 20 46 rfl (by kernel_rfl) (by rfl) hHeld ?_; simp only [pqZ]
            refine tkO 21 47 rfl (by kernel_rfl) (by rfl) hHeld ?_; simp only [pqZ]
            refine tkO 22 48 rfl (by kernel_rfl) (by rfl) hHeld ?_; simp only [pqZ]
            refine tkO 23 49 rfl (by kernel_rfl) (by rfl) hHeld ?_; simp only [pqZ]
            refine tkO 24 50 rfl (by kernel_rfl) (by rfl) hHeld ?_; simp only [pqZ]
            refine tkO 25 51 rfl (by kernel_rfl) (by rfl) hHeld ?_; simp only [pqZ]
            refine tkO 26 52 rfl (by kernel_rfl) (by rfl) hHeld ?_; simp only [pqZ]
            refine tkO 27 53 rfl (by kernel_rfl) (by rfl) hHeld ?_; simp only [pqZ]
            refine tkO 28 54 rfl (by kernel_rfl) (by rfl) hHeld ?_; simp only [pqZ]
            refine tkO 29 55 rfl (by kernel_rfl) (by rfl) hHeld ?_; simp only [pqZ]
            refine tkI 30 56 rfl (by intro w hSw; obtain ⟨z0, z1, z2, z3, z4, z5⟩ := HBF.out _ hSw; obtain ⟨q0, q1, q2, q3, q4, q5⟩ := HL0.out _ hSw; go_simp <;> with_reducible rfl) hHeld ?_; simp only [pqZ]
            refine wpAnyH_done (by kernel_rfl) ?_ _
            have hBf := HBW.out.trans (hHeld.mono HBW.out.size)
            go_wp2_with fail
            go_ret2
            rw [HJ.out]
            exact ⟨⟨none, 0, rfl, own_nil _ _ _⟩, hBf⟩
          · have hgj : goodJ ⟨l0, e0, s0, p0, r0, D0⟩ n k ⟨life, era, seq, part, parts, D⟩ = false := by
              unfold goodJ
              simp only
              rw [h1.1, decide_eq_true h1.2.1, decide_eq_true h1.2.2.1, decide_eq_true h1.2.2.2.1, decide_eq_false h1.2.2.2.2]; rfl
            have HJ := Lib.hid (HBA.out hgj)
            clear hgj HGO HBA
            have HFIT : Hid (∀ V, Calls Try.prog 93 #[.agg #[.int .i64 life, .int .i64 era, .int .i64 seq, .int .i64 part, .int .i64 parts, .slice fA dl fc]] V fun e w' => e = .returned (.bool true) ∧ Below V.heap.size V w') := Lib.hid fun V => by
              have h := fit7_any ⟨life, era, seq, part, parts, D⟩ fA fc V
              unfold Fr.val at h
              simp only at h
              rw [HDL.out, h1.1] at h
              exact h
            have hrec : ∀ V, (Op.equalIn 10000 161 (.agg #[.int .i64 life, .int .i64 era, .int .i64 seq, .int .i64 parts]) (.agg #[.int .i64 l0, .int .i64 e0, .int .i64 s0, .int .i64 r0])).run Try.prog V = .ok true V := fun V => by rw [arr4_eq, decide_eq_true h1.2.1]
            have hpp : part = (k : Int) := h1.2.2.1
            have hpn : (part != (k : Int)) = false := by rw [hpp]; simp
            clear hpp
            have hkn : decide ((k : Int) < (n : Int) - 1) = true := decide_eq_true (by have := h1.2.2.2.1; omega)
            have hld : ((dl : Int) != 80) = true := bne_iff_ne.2 (by have := h1.2.2.2.2; have := HDL.out; simp only at *; omega)
            clear h1
            refine wp_region_held_drew (S := (fun V' => Below W.heap.size W V')) (by kernel_rfl) (by exact (Below.refl _ _).drew) (fun hHeld => ?_)
            refine tkI 0 26 rfl (by intro w hSw; obtain ⟨z0, z1, z2, z3, z4, z5⟩ := HBF.out _ hSw; obtain ⟨q0, q1, q2, q3, q4, q5⟩ := HL0.out _ hSw; go_simp <;> with_reducible rfl) hHeld ?_; simp only [pqZ]
            refine rdZ 1 27 rfl (by kernel_rfl) (fun K hK => ?_)
            go_simp
            refine (HFIT.out _).mono ?_
            rintro e x1 ⟨rfl, hk1⟩
            have hKeep := since_step hHeld hk1
            go_wp2_with fail
            refine hK.out _ _ (by (try dsimp only); exact hKeep) (fun hHeld => ?_); clear hK K hKeep; try simp only [pqZ]
            refine tkI 2 28 rfl (by intro w hSw; obtain ⟨z0, z1, z2, z3, z4, z5⟩ := HBF.out _ hSw; obtain ⟨q0, q1, q2, q3, q4, q5⟩ := HL0.out _ hSw; go_simp <;> with_reducible rfl) hHeld ?_; simp only [pqZ]
            refine tkI 3 29 rfl (by intro w hSw; obtain ⟨z0, z1, z2, z3, z4, z5⟩ := HBF.out _ hSw; obtain ⟨q0, q1, q2, q3, q4, q5⟩ := HL0.out _ hSw; go_simp <;> with_reducible rfl) hHeld ?_; simp only [pqZ]
            refine tkI 4 30 rfl (by intro w hSw; obtain ⟨z0, z1, z2, z3, z4, z5⟩ := HBF.out _ hSw; obtain ⟨q0, q1, q2, q3, q4, q5⟩ := HL0.out _ hSw; go_simp <;> with_reducible rfl) hHeld ?_; simp only [pqZ]
            refine tkI 6 32 rfl (by intro w hSw; obtain ⟨z0, z1, z2, z3, z4, z5⟩ := HBF.out _ hSw; obtain ⟨q0, q1, q2, q3, q4, q5⟩ := HL0.out _ hSw; go_simp <;> with_reducible rfl) hHeld ?_; simp only [pqZ]
            refine tkI 7 33 rfl (by intro w hSw; obtain ⟨z0, z1, z2, z3, z4, z5⟩ := HBF.out _ hSw; obtain ⟨q0, q1, q2, q3, q4, q5⟩ := HL0.out _ hSw; go_simp <;> with_reducible rfl) hHeld ?_; simp only [pqZ]
            refine tkI 8 34 rfl (by intro w hSw; obtain ⟨z0, z1, z2, z3, z4, z5⟩ := HBF.out _ hSw; obtain ⟨q0, q1, q2, q3, q4, q5⟩ := HL0.out _ hSw; go_simp <;> with_reducible rfl) hHeld ?_; simp only [pqZ]
            refine rdZ 5 31 rfl (by kernel_rfl) (fun K hK => ?_)
            go_simp
            refine (HR1.out _).mono ?_
            rintro e x2 ⟨rfl, hk2⟩
            have hKeep := since_step hHeld hk2
            go_wp2_with fail
            refine hK.out _ _ (by (try dsimp only); exact hKeep) (fun hHeld => ?_); clear hK K hKeep; try simp only [pqZ]
            refine rdZ 9 35 rfl (by kernel_rfl) (fun K hK => ?_)
            go_simp
            refine (HR2.out _).mono ?_
            rintro e x3 ⟨rfl, hk3⟩
            have hKeep := since_step hHeld hk3
            go_wp2_with fail
            refine hK.out _ _ (by (try dsimp only); exact hKeep) (fun hHeld => ?_); clear hK K hKeep; try simp only [pqZ]
            refine tkI 10 36 rfl (by intro w hSw; obtain ⟨z0, z1, z2, z3, z4, z5⟩ := HBF.out _ hSw; obtain ⟨q0, q1, q2, q3, q4, q5⟩ := HL0.out _ hSw; go_simp <;> with_reducible rfl) hHeld ?_; simp only [pqZ]
            refine tkI 11 37 rfl (by intro w hSw; obtain ⟨z0, z1, z2, z3, z4, z5⟩ := HBF.out _ hSw; obtain ⟨q0, q1, q2, q3, q4, q5⟩ := HL0.out _ hSw; go_simp <;> with_reducible rfl) hHeld ?_; simp only [pqZ]
            refine tkI 12 38 rfl (by intro w hSw; obtain ⟨z0, z1, z2, z3, z4, z5⟩ := HBF.out _ hSw; obtain ⟨q0, q1, q2, q3, q4, q5⟩ := HL0.out _ hSw; go_simp <;> with_reducible rfl) hHeld ?_; simp only [pqZ]
            refine tkI 13 39 rfl (by intro w hSw; obtain ⟨z0, z1, z2, z3, z4, z5⟩ := HBF.out _ hSw; obtain ⟨q0, q1, q2, q3, q4, q5⟩ := HL0.out _ hSw; go_simp <;> with_reducible rfl) hHeld ?_; simp only [pqZ]
            refine tkI 14 40 rfl (by intro w hSw; obtain ⟨z0, z1, z2, z3, z4, z5⟩ := HBF.out _ hSw; obtain ⟨q0, q1, q2, q3, q4, q5⟩ := HL0.out _ hSw; go_simp <;> with_reducible rfl) hHeld ?_; simp only [pqZ]
            refine tkI 15 41 rfl (by intro w hSw; obtain ⟨z0, z1, z2, z3, z4, z5⟩ := HBF.out _ hSw; obtain ⟨q0, q1, q2, q3, q4, q5⟩ := HL0.out _ hSw; go_simp <;> with_reducible rfl) hHeld ?_; simp only [pqZ]
            refine tkI 16 42 rfl (by intro w hSw; obtain ⟨z0, z1, z2, z3, z4, z5⟩ := HBF.out _ hSw; obtain ⟨q0, q1, q2, q3, q4, q5⟩ := HL0.out _ hSw; go_simp <;> with_reducible rfl) hHeld ?_; simp only [pqZ]
            refine tkI 17 43 rfl (by intro w hSw; obtain ⟨z0, z1, z2, z3, z4, z5⟩ := HBF.out _ hSw; obtain ⟨q0, q1, q2, q3, q4, q5⟩ := HL0.out _ hSw; go_simp <;> with_reducible rfl) hHeld ?_; simp only [pqZ]
            refine tkI 18 44 rfl (by intro w hSw; obtain ⟨z0, z1, z2, z3, z4, z5⟩ := HBF.out _ hSw; obtain ⟨q0, q1, q2, q3, q4, q5⟩ := HL0.out _ hSw; go_simp <;> with_reducible rfl) hHeld ?_; simp only [pqZ]
            refine tkI 19 45 rfl (by intro w hSw; obtain ⟨z0, z1, z2, z3, z4, z5⟩ := HBF.out _ hSw; obtain ⟨q0, q1, q2, q3, q4, q5⟩ := HL0.out _ hSw; go_simp <;> with_reducible rfl) hHeld ?_; simp only [pqZ]
            refine tkI 20 46 rfl (by intro w hSw; obtain ⟨z0, z1, z2, z3, z4, z5⟩ := HBF.out _ hSw; obtain ⟨q0, q1, q2, q3, q4, q5⟩ := HL0.out _ hSw; go_simp <;> with_reducible rfl) hHeld ?_; simp only [pqZ]
            refine tkI 21 47 rfl (by intro w hSw; obtain ⟨z0, z1, z2, z3, z4, z5⟩ := HBF.out _ hSw; obtain ⟨q0, q1, q2, q3, q4, q5⟩ := HL0.out _ hSw; go_simp <;> with_reducible rfl) hHeld ?_; simp only [pqZ]
            refine tkI 22 48 rfl (by intro w hSw; obtain ⟨z0, z1, z2, z3, z4, z5⟩ := HBF.out _ hSw; obtain ⟨q0, q1, q2, q3, q4, q5⟩ := HL0.out _ hSw; go_simp <;> with_reducible rfl) hHeld ?_; simp only [pqZ]
            refine tkI 23 49 rfl (by intro w hSw; obtain ⟨z0, z1, z2, z3, z4, z5⟩ := HBF.out _ hSw; obtain ⟨q0, q1, q2, q3, q4, q5⟩ := HL0.out _ hSw; go_simp <;> with_reducible rfl) hHeld ?_; simp only [pqZ]
            refine tkI 24 50 rfl (by intro w hSw; obtain ⟨z0, z1, z2, z3, z4, z5⟩ := HBF.out _ hSw; obtain ⟨q0, q1, q2, q3, q4, q5⟩ := HL0.out _ hSw; go_simp <;> with_reducible rfl) hHeld ?_; simp only [pqZ]
            refine tkI 25 51 rfl (by intro w hSw; obtain ⟨z0, z1, z2, z3, z4, z5⟩ := HBF.out _ hSw; obtain ⟨q0, q1, q2, q3, q4, q5⟩ := HL0.out _ hSw; go_simp <;> with_reducible rfl) hHeld ?_; simp only [pqZ]
            refine tkI 26 52 rfl (by intro w hSw; obtain ⟨z0, z1, z2, z3, z4, z5⟩ := HBF.out _ hSw; obtain ⟨q0, q1, q2, q3, q4, q5⟩ := HL0.out _ hSw; go_simp <;> with_reducible rfl) hHeld ?_; simp only [pqZ]
            refine tkI 27 53 rfl (by intro w hSw; obtain ⟨z0, z1, z2, z3, z4, z5⟩ := HBF.out _ hSw; obtain ⟨q0, q1, q2, q3, q4, q5⟩ := HL0.out _ hSw; go_simp <;> with_reducible rfl) hHeld ?_; simp only [pqZ]
            refine tkI 28 54 rfl (by intro w hSw; obtain ⟨z0, z1, z2, z3, z4, z5⟩ := HBF.out _ hSw; obtain ⟨q0, q1, q2, q3, q4, q5⟩ := HL0.out _ hSw; go_simp <;> with_reducible rfl) hHeld ?_; simp only [pqZ]
            refine tkI 29 55 rfl (by intro w hSw; obtain ⟨z0, z1, z2, z3, z4, z5⟩ := HBF.out _ hSw; obtain ⟨q0, q1, q2, q3, q4, q5⟩ := HL0.out _ hSw; go_simp <;> with_reducible rfl) hHeld ?_; simp only [pqZ]
            refine tkI 30 56 rfl (by intro w hSw; obtain ⟨z0, z1, z2, z3, z4, z5⟩ := HBF.out _ hSw; obtain ⟨q0, q1, q2, q3, q4, q5⟩ := HL0.out _ hSw; go_simp <;> with_reducible rfl) hHeld ?_; simp only [pqZ]
            refine wpAnyH_done (by kernel_rfl) ?_ _
            have hBf := HBW.out.trans (hHeld.mono HBW.out.size)
            go_wp2_with fail
            go_ret2
            rw [HJ.out]
            exact ⟨⟨none, 0, rfl, own_nil _ _ _⟩, hBf⟩
          · have hgj : goodJ ⟨l0, e0, s0, p0, r0, D0⟩ n k ⟨life, era, seq, part, parts, D⟩ = true := by
              unfold goodJ
              simp only
              rw [h1.1, decide_eq_true h1.2.1, decide_eq_true h1.2.2.1, decide_eq_true h1.2.2.2.1, decide_eq_true h1.2.2.2.2]; rfl
            have HAG := Lib.hid (HGO.out hgj)
            clear hgj HGO HBA
            have HFIT : Hid (∀ V, Calls Try.prog 93 #[.agg #[.int .i64 life, .int .i64 era, .int .i64 seq, .int .i64 part, .int .i64 parts, .slice fA dl fc]] V fun e w' => e = .returned (.bool true) ∧ Below V.heap.size V w') := Lib.hid fun V => by
              have h := fit7_any ⟨life, era, seq, part, parts, D⟩ fA fc V
              unfold Fr.val at h
              simp only at h
              rw [HDL.out, h1.1] at h
              exact h
            have hrec : ∀ V, (Op.equalIn 10000 161 (.agg #[.int .i64 life, .int .i64 era, .int .i64 seq, .int .i64 parts]) (.agg #[.int .i64 l0, .int .i64 e0, .int .i64 s0, .int .i64 r0])).run Try.prog V = .ok true V := fun V => by rw [arr4_eq, decide_eq_true h1.2.1]
            have hpp : part = (k : Int) := h1.2.2.1
            have hpn : (part != (k : Int)) = false := by rw [hpp]; simp
            clear hpp
            have hkn : decide ((k : Int) < (n : Int) - 1) = true := decide_eq_true (by have := h1.2.2.2.1; omega)
            have hld : ((dl : Int) != 80) = false := by have h80 := h1.2.2.2.2; have := HDL.out; simp only at h80; rw [this] at h80; rw [h80]; rfl
            clear h1
            refine wp_region_held_drew (S := (fun V' => Below W.heap.size W V')) (by kernel_rfl) (by exact (Below.refl _ _).drew) (fun hHeld => ?_)
            refine tkI 0 26 rfl (by intro w hSw; obtain ⟨z0, z1, z2, z3, z4, z5⟩ := HBF.out _ hSw; obtain ⟨q0, q1, q2, q3, q4, q5⟩ := HL0.out _ hSw; go_simp <;> with_reducible rfl) hHeld ?_; simp only [pqZ]
            refine rdZ 1 27 rfl (by kernel_rfl) (fun K hK => ?_)
            go_simp
            refine (HFIT.out _).mono ?_
            rintro e x1 ⟨rfl, hk1⟩
            have hKeep := since_step hHeld hk1
            go_wp2_with fail
            refine hK.out _ _ (by (try dsimp only); exact hKeep) (fun hHeld => ?_); clear hK K hKeep; try simp only [pqZ]
            refine tkI 2 28 rfl (by intro w hSw; obtain ⟨z0, z1, z2, z3, z4, z5⟩ := HBF.out _ hSw; obtain ⟨q0, q1, q2, q3, q4, q5⟩ := HL0.out _ hSw; go_simp <;> with_reducible rfl) hHeld ?_; simp only [pqZ]
            refine tkI 3 29 rfl (by intro w hSw; obtain ⟨z0, z1, z2, z3, z4, z5⟩ := HBF.out _ hSw; obtain ⟨q0, q1, q2, q3, q4, q5⟩ := HL0.out _ hSw; go_simp <;> with_reducible rfl) hHeld ?_; simp only [pqZ]
            refine tkI 4 30 rfl (by intro w hSw; obtain ⟨z0, z1, z2, z3, z4, z5⟩ := HBF.out _ hSw; obtain ⟨q0, q1, q2, q3, q4, q5⟩ := HL0.out _ hSw; go_simp <;> with_reducible rfl) hHeld ?_; simp only [pqZ]
            refine tkI 6 32 rfl (by intro w hSw; obtain ⟨z0, z1, z2, z3, z4, z5⟩ := HBF.out _ hSw; obtain ⟨q0, q1, q2, q3, q4, q5⟩ := HL0.out _ hSw; go_simp <;> with_reducible rfl) hHeld ?_; simp only [pqZ]
            refine tkI 7 33 rfl (by intro w hSw; obtain ⟨z0, z1, z2, z3, z4, z5⟩ := HBF.out _ hSw; obtain ⟨q0, q1, q2, q3, q4, q5⟩ := HL0.out _ hSw; go_simp <;> with_reducible rfl) hHeld ?_; simp only [pqZ]
            refine tkI 8 34 rfl (by intro w hSw; obtain ⟨z0, z1, z2, z3, z4, z5⟩ := HBF.out _ hSw; obtain ⟨q0, q1, q2, q3, q4, q5⟩ := HL0.out _ hSw; go_simp <;> with_reducible rfl) hHeld ?_; simp only [pqZ]
            refine rdZ 5 31 rfl (by kernel_rfl) (fun K hK => ?_)
            go_simp
            refine (HR1.out _).mono ?_
            rintro e x2 ⟨rfl, hk2⟩
            have hKeep := since_step hHeld hk2
            go_wp2_with fail
            refine hK.out _ _ (by (try dsimp only); exact hKeep) (fun hHeld => ?_); clear hK K hKeep; try simp only [pqZ]
            refine rdZ 9 35 rfl (by kernel_rfl) (fun K hK => ?_)
            go_simp
            refine (HR2.out _).mono ?_
            rintro e x3 ⟨rfl, hk3⟩
            have hKeep := since_step hHeld hk3
            go_wp2_with fail
            refine hK.out _ _ (by (try dsimp only); exact hKeep) (fun hHeld => ?_); clear hK K hKeep; try simp only [pqZ]
            refine tkI 10 36 rfl (by intro w hSw; obtain ⟨z0, z1, z2, z3, z4, z5⟩ := HBF.out _ hSw; obtain ⟨q0, q1, q2, q3, q4, q5⟩ := HL0.out _ hSw; go_simp <;> with_reducible rfl) hHeld ?_; simp only [pqZ]
            refine tkI 11 37 rfl (by intro w hSw; obtain ⟨z0, z1, z2, z3, z4, z5⟩ := HBF.out _ hSw; obtain ⟨q0, q1, q2, q3, q4, q5⟩ := HL0.out _ hSw; go_simp <;> with_reducible rfl) hHeld ?_; simp only [pqZ]
            refine tkI 12 38 rfl (by intro w hSw; obtain ⟨z0, z1, z2, z3, z4, z5⟩ := HBF.out _ hSw; obtain ⟨q0, q1, q2, q3, q4, q5⟩ := HL0.out _ hSw; go_simp <;> with_reducible rfl) hHeld ?_; simp only [pqZ]
            refine tkI 13 39 rfl (by intro w hSw; obtain ⟨z0, z1, z2, z3, z4, z5⟩ := HBF.out _ hSw; obtain ⟨q0, q1, q2, q3, q4, q5⟩ := HL0.out _ hSw; go_simp <;> with_reducible rfl) hHeld ?_; simp only [pqZ]
            refine tkI 14 40 rfl (by intro w hSw; obtain ⟨z0, z1, z2, z3, z4, z5⟩ := HBF.out _ hSw; obtain ⟨q0, q1, q2, q3, q4, q5⟩ := HL0.out _ hSw; go_simp <;> with_reducible rfl) hHeld ?_; simp only [pqZ]
            refine tkI 15 41 rfl (by intro w hSw; obtain ⟨z0, z1, z2, z3, z4, z5⟩ := HBF.out _ hSw; obtain ⟨q0, q1, q2, q3, q4, q5⟩ := HL0.out _ hSw; go_simp <;> with_reducible rfl) hHeld ?_; simp only [pqZ]
            refine tkI 16 42 rfl (by intro w hSw; obtain ⟨z0, z1, z2, z3, z4, z5⟩ := HBF.out _ hSw; obtain ⟨q0, q1, q2, q3, q4, q5⟩ := HL0.out _ hSw; go_simp <;> with_reducible rfl) hHeld ?_; simp only [pqZ]
            refine tkI 17 43 rfl (by intro w hSw; obtain ⟨z0, z1, z2, z3, z4, z5⟩ := HBF.out _ hSw; obtain ⟨q0, q1, q2, q3, q4, q5⟩ := HL0.out _ hSw; go_simp <;> with_reducible rfl) hHeld ?_; simp only [pqZ]
            refine tkI 18 44 rfl (by intro w hSw; obtain ⟨z0, z1, z2, z3, z4, z5⟩ := HBF.out _ hSw; obtain ⟨q0, q1, q2, q3, q4, q5⟩ := HL0.out _ hSw; go_simp <;> with_reducible rfl) hHeld ?_; simp only [pqZ]
            refine tkI 19 45 rfl (by intro w hSw; obtain ⟨z0, z1, z2, z3, z4, z5⟩ := HBF.out _ hSw; obtain ⟨q0, q1, q2, q3, q4, q5⟩ := HL0.out _ hSw; go_simp <;> with_reducible rfl) hHeld ?_; simp only [pqZ]
            refine tkI 20 46 rfl (by intro w hSw; obtain ⟨z0, z1, z2, z3, z4, z5⟩ := HBF.out _ hSw; obtain ⟨q0, q1, q2, q3, q4, q5⟩ := HL0.out _ hSw; go_simp <;> with_reducible rfl) hHeld ?_; simp only [pqZ]
            refine tkI 21 47 rfl (by intro w hSw; obtain ⟨z0, z1, z2, z3, z4, z5⟩ := HBF.out _ hSw; obtain ⟨q0, q1, q2, q3, q4, q5⟩ := HL0.out _ hSw; go_simp <;> with_reducible rfl) hHeld ?_; simp only [pqZ]
            refine tkI 22 48 rfl (by intro w hSw; obtain ⟨z0, z1, z2, z3, z4, z5⟩ := HBF.out _ hSw; obtain ⟨q0, q1, q2, q3, q4, q5⟩ := HL0.out _ hSw; go_simp <;> with_reducible rfl) hHeld ?_; simp only [pqZ]
            refine tkI 23 49 rfl (by intro w hSw; obtain ⟨z0, z1, z2, z3, z4, z5⟩ := HBF.out _ hSw; obtain ⟨q0, q1, q2, q3, q4, q5⟩ := HL0.out _ hSw; go_simp <;> with_reducible rfl) hHeld ?_; simp only [pqZ]
            refine tkI 24 50 rfl (by intro w hSw; obtain ⟨z0, z1, z2, z3, z4, z5⟩ := HBF.out _ hSw; obtain ⟨q0, q1, q2, q3, q4, q5⟩ := HL0.out _ hSw; go_simp <;> with_reducible rfl) hHeld ?_; simp only [pqZ]
            refine tkI 25 51 rfl (by intro w hSw; obtain ⟨z0, z1, z2, z3, z4, z5⟩ := HBF.out _ hSw; obtain ⟨q0, q1, q2, q3, q4, q5⟩ := HL0.out _ hSw; go_simp <;> with_reducible rfl) hHeld ?_; simp only [pqZ]
            refine tkI 26 52 rfl (by intro w hSw; obtain ⟨z0, z1, z2, z3, z4, z5⟩ := HBF.out _ hSw; obtain ⟨q0, q1, q2, q3, q4, q5⟩ := HL0.out _ hSw; go_simp <;> with_reducible rfl) hHeld ?_; simp only [pqZ]
            refine tkI 27 53 rfl (by intro w hSw; obtain ⟨z0, z1, z2, z3, z4, z5⟩ := HBF.out _ hSw; obtain ⟨q0, q1, q2, q3, q4, q5⟩ := HL0.out _ hSw; go_simp <;> with_reducible rfl) hHeld ?_; simp only [pqZ]
            refine tkI 28 54 rfl (by intro w hSw; obtain ⟨z0, z1, z2, z3, z4, z5⟩ := HBF.out _ hSw; obtain ⟨q0, q1, q2, q3, q4, q5⟩ := HL0.out _ hSw; go_simp <;> with_reducible rfl) hHeld ?_; simp only [pqZ]
            refine tkI 29 55 rfl (by intro w hSw; obtain ⟨z0, z1, z2, z3, z4, z5⟩ := HBF.out _ hSw; obtain ⟨q0, q1, q2, q3, q4, q5⟩ := HL0.out _ hSw; go_simp <;> with_reducible rfl) hHeld ?_; simp only [pqZ]
            refine tkI 30 56 rfl (by intro w hSw; obtain ⟨z0, z1, z2, z3, z4, z5⟩ := HBF.out _ hSw; obtain ⟨q0, q1, q2, q3, q4, q5⟩ := HL0.out _ hSw; go_simp <;> with_reducible rfl) hHeld ?_; simp only [pqZ]
            refine wpAnyH_done (by kernel_rfl) ?_ _
            have hBf := HBW.out.trans (hHeld.mono HBW.out.size)
            have own3 := own_below ownW hHeld
            have hsd := HSD.out _ hHeld
            obtain ⟨z0, z1, z2, z3, z4, z5⟩ := HBF.out _ hHeld
            have hzl : wr.heap.size < x3.heap.size := Nat.lt_of_lt_of_le HWL.out hHeld.size
            have hwsz : w.heap.size ≤ x3.heap.size := hBf.size
            clear hHeld
            generalize x3.drew = X at *
            go_wp2_with (first
              | (at_builtin; refine wpList_app rfl (.tmp 57) (.tmp 59) rfl EF8 rfl rfl own3 (m := dl) (news := by8 D) (by rw [by8_length, HDL.out]; omega) hsd (by8_one _) (by unfold maxLen; omega) (by omega) hwsz ?_; intro A4 c4 x4 own4 hg4 hb4)
              | fail)
            rw [← by8_append] at own4
            have hln : (P ++ D).length = P.length + dl := by rw [List.length_append, HDL.out]
            have hB4 := hBf.trans hb4
            go_roundw
            case rel => exact ⟨k + 1, A4, c4, by omega, by rw [HDT.out, hln], rfl, by rw [HDT.out, hln]; exact own4, HAG.out, hB4⟩
            case measure => simp [intOf]; omega
          · have hgj : goodJ ⟨l0, e0, s0, p0, r0, D0⟩ n k ⟨life, era, seq, part, parts, D⟩ = true := by
              unfold goodJ
              simp only
              rw [h1.1, decide_eq_true h1.2.1, decide_eq_true h1.2.2.1, decide_eq_false h1.2.2.2]; rfl
            have HAG := Lib.hid (HGO.out hgj)
            clear hgj HGO HBA
            have HFIT : Hid (∀ V, Calls Try.prog 93 #[.agg #[.int .i64 life, .int .i64 era, .int .i64 seq, .int .i64 part, .int .i64 parts, .slice fA dl fc]] V fun e w' => e = .returned (.bool true) ∧ Below V.heap.size V w') := Lib.hid fun V => by
              have h := fit7_any ⟨life, era, seq, part, parts, D⟩ fA fc V
              unfold Fr.val at h
              simp only at h
              rw [HDL.out, h1.1] at h
              exact h
            have hrec : ∀ V, (Op.equalIn 10000 161 (.agg #[.int .i64 life, .int .i64 era, .int .i64 seq, .int .i64 parts]) (.agg #[.int .i64 l0, .int .i64 e0, .int .i64 s0, .int .i64 r0])).run Try.prog V = .ok true V := fun V => by rw [arr4_eq, decide_eq_true h1.2.1]
            have hpp : part = (k : Int) := h1.2.2.1
            have hpn : (part != (k : Int)) = false := by rw [hpp]; simp
            clear hpp
            have hkn : decide ((k : Int) < (n : Int) - 1) = false := decide_eq_false (by have := h1.2.2.2; omega)
            clear h1
            refine wp_region_held_drew (S := (fun V' => Below W.heap.size W V')) (by kernel_rfl) (by exact (Below.refl _ _).drew) (fun hHeld => ?_)
            refine tkI 0 26 rfl (by intro w hSw; obtain ⟨z0, z1, z2, z3, z4, z5⟩ := HBF.out _ hSw; obtain ⟨q0, q1, q2, q3, q4, q5⟩ := HL0.out _ hSw; go_simp <;> with_reducible rfl) hHeld ?_; simp only [pqZ]
            refine rdZ 1 27 rfl (by kernel_rfl) (fun K hK => ?_)
            go_simp
            refine (HFIT.out _).mono ?_
            rintro e x1 ⟨rfl, hk1⟩
            have hKeep := since_step hHeld hk1
            go_wp2_with fail
            refine hK.out _ _ (by (try dsimp only); exact hKeep) (fun hHeld => ?_); clear hK K hKeep; try simp only [pqZ]
            refine tkI 2 28 rfl (by intro w hSw; obtain ⟨z0, z1, z2, z3, z4, z5⟩ := HBF.out _ hSw; obtain ⟨q0, q1, q2, q3, q4, q5⟩ := HL0.out _ hSw; go_simp <;> with_reducible rfl) hHeld ?_; simp only [pqZ]
            refine tkI 3 29 rfl (by intro w hSw; obtain ⟨z0, z1, z2, z3, z4, z5⟩ := HBF.out _ hSw; obtain ⟨q0, q1, q2, q3, q4, q5⟩ := HL0.out _ hSw; go_simp <;> with_reducible rfl) hHeld ?_; simp only [pqZ]
            refine tkI 4 30 rfl (by intro w hSw; obtain ⟨z0, z1, z2, z3, z4, z5⟩ := HBF.out _ hSw; obtain ⟨q0, q1, q2, q3, q4, q5⟩ := HL0.out _ hSw; go_simp <;> with_reducible rfl) hHeld ?_; simp only [pqZ]
            refine tkI 6 32 rfl (by intro w hSw; obtain ⟨z0, z1, z2, z3, z4, z5⟩ := HBF.out _ hSw; obtain ⟨q0, q1, q2, q3, q4, q5⟩ := HL0.out _ hSw; go_simp <;> with_reducible rfl) hHeld ?_; simp only [pqZ]
            refine tkI 7 33 rfl (by intro w hSw; obtain ⟨z0, z1, z2, z3, z4, z5⟩ := HBF.out _ hSw; obtain ⟨q0, q1, q2, q3, q4, q5⟩ := HL0.out _ hSw; go_simp <;> with_reducible rfl) hHeld ?_; simp only [pqZ]
            refine tkI 8 34 rfl (by intro w hSw; obtain ⟨z0, z1, z2, z3, z4, z5⟩ := HBF.out _ hSw; obtain ⟨q0, q1, q2, q3, q4, q5⟩ := HL0.out _ hSw; go_simp <;> with_reducible rfl) hHeld ?_; simp only [pqZ]
            refine rdZ 5 31 rfl (by kernel_rfl) (fun K hK => ?_)
            go_simp
            refine (HR1.out _).mono ?_
            rintro e x2 ⟨rfl, hk2⟩
            have hKeep := since_step hHeld hk2
            go_wp2_with fail
            refine hK.out _ _ (by (try dsimp only); exact hKeep) (fun hHeld => ?_); clear hK K hKeep; try simp only [pqZ]
            refine rdZ 9 35 rfl (by kernel_rfl) (fun K hK => ?_)
            go_simp
            refine (HR2.out _).mono ?_
            rintro e x3 ⟨rfl, hk3⟩
            have hKeep := since_step hHeld hk3
            go_wp2_with fail
            refine hK.out _ _ (by (try dsimp only); exact hKeep) (fun hHeld => ?_); clear hK K hKeep; try simp only [pqZ]
            refine tkI 10 36 rfl (by intro w hSw; obtain ⟨z0, z1, z2, z3, z4, z5⟩ := HBF.out _ hSw; obtain ⟨q0, q1, q2, q3, q4, q5⟩ := HL0.out _ hSw; go_simp <;> with_reducible rfl) hHeld ?_; simp only [pqZ]
            refine tkI 11 37 rfl (by intro w hSw; obtain ⟨z0, z1, z2, z3, z4, z5⟩ := HBF.out _ hSw; obtain ⟨q0, q1, q2, q3, q4, q5⟩ := HL0.out _ hSw; go_simp <;> with_reducible rfl) hHeld ?_; simp only [pqZ]
            refine tkI 12 38 rfl (by intro w hSw; obtain ⟨z0, z1, z2, z3, z4, z5⟩ := HBF.out _ hSw; obtain ⟨q0, q1, q2, q3, q4, q5⟩ := HL0.out _ hSw; go_simp <;> with_reducible rfl) hHeld ?_; simp only [pqZ]
            refine tkI 13 39 rfl (by intro w hSw; obtain ⟨z0, z1, z2, z3, z4, z5⟩ := HBF.out _ hSw; obtain ⟨q0, q1, q2, q3, q4, q5⟩ := HL0.out _ hSw; go_simp <;> with_reducible rfl) hHeld ?_; simp only [pqZ]
            refine tkI 14 40 rfl (by intro w hSw; obtain ⟨z0, z1, z2, z3, z4, z5⟩ := HBF.out _ hSw; obtain ⟨q0, q1, q2, q3, q4, q5⟩ := HL0.out _ hSw; go_simp <;> with_reducible rfl) hHeld ?_; simp only [pqZ]
            refine tkI 15 41 rfl (by intro w hSw; obtain ⟨z0, z1, z2, z3, z4, z5⟩ := HBF.out _ hSw; obtain ⟨q0, q1, q2, q3, q4, q5⟩ := HL0.out _ hSw; go_simp <;> with_reducible rfl) hHeld ?_; simp only [pqZ]
            refine tkI 16 42 rfl (by intro w hSw; obtain ⟨z0, z1, z2, z3, z4, z5⟩ := HBF.out _ hSw; obtain ⟨q0, q1, q2, q3, q4, q5⟩ := HL0.out _ hSw; go_simp <;> with_reducible rfl) hHeld ?_; simp only [pqZ]
            refine tkI 17 43 rfl (by intro w hSw; obtain ⟨z0, z1, z2, z3, z4, z5⟩ := HBF.out _ hSw; obtain ⟨q0, q1, q2, q3, q4, q5⟩ := HL0.out _ hSw; go_simp <;> with_reducible rfl) hHeld ?_; simp only [pqZ]
            refine tkI 18 44 rfl (by intro w hSw; obtain ⟨z0, z1, z2, z3, z4, z5⟩ := HBF.out _ hSw; obtain ⟨q0, q1, q2, q3, q4, q5⟩ := HL0.out _ hSw; go_simp <;> with_reducible rfl) hHeld ?_; simp only [pqZ]
            refine tkI 19 45 rfl (by intro w hSw; obtain ⟨z0, z1, z2, z3, z4, z5⟩ := HBF.out _ hSw; obtain ⟨q0, q1, q2, q3, q4, q5⟩ := HL0.out _ hSw; go_simp <;> with_reducible rfl) hHeld ?_; simp only [pqZ]
            refine tkI 20 46 rfl (by intro w hSw; obtain ⟨z0, z1, z2, z3, z4, z5⟩ := HBF.out _ hSw; obtain ⟨q0, q1, q2, q3, q4, q5⟩ := HL0.out _ hSw; go_simp <;> with_reducible rfl) hHeld ?_; simp only [pqZ]
            refine tkI 21 47 rfl (by intro w hSw; obtain ⟨z0, z1, z2, z3, z4, z5⟩ := HBF.out _ hSw; obtain ⟨q0, q1, q2, q3, q4, q5⟩ := HL0.out _ hSw; go_simp <;> with_reducible rfl) hHeld ?_; simp only [pqZ]
            refine tkI 22 48 rfl (by intro w hSw; obtain ⟨z0, z1, z2, z3, z4, z5⟩ := HBF.out _ hSw; obtain ⟨q0, q1, q2, q3, q4, q5⟩ := HL0.out _ hSw; go_simp <;> with_reducible rfl) hHeld ?_; simp only [pqZ]
            refine tkI 23 49 rfl (by intro w hSw; obtain ⟨z0, z1, z2, z3, z4, z5⟩ := HBF.out _ hSw; obtain ⟨q0, q1, q2, q3, q4, q5⟩ := HL0.out _ hSw; go_simp <;> with_reducible rfl) hHeld ?_; simp only [pqZ]
            refine tkI 24 50 rfl (by intro w hSw; obtain ⟨z0, z1, z2, z3, z4, z5⟩ := HBF.out _ hSw; obtain ⟨q0, q1, q2, q3, q4, q5⟩ := HL0.out _ hSw; go_simp <;> with_reducible rfl) hHeld ?_; simp only [pqZ]
            refine tkO 25 51 rfl (by kernel_rfl) (by rfl) hHeld ?_; simp only [pqZ]
            refine tkO 26 52 rfl (by kernel_rfl) (by rfl) hHeld ?_; simp only [pqZ]
            refine tkO 27 53 rfl (by kernel_rfl) (by rfl) hHeld ?_; simp only [pqZ]
            refine tkO 28 54 rfl (by kernel_rfl) (by rfl) hHeld ?_; simp only [pqZ]
            refine tkI 29 55 rfl (by intro w hSw; obtain ⟨z0, z1, z2, z3, z4, z5⟩ := HBF.out _ hSw; obtain ⟨q0, q1, q2, q3, q4, q5⟩ := HL0.out _ hSw; go_simp <;> with_reducible rfl) hHeld ?_; simp only [pqZ]
            refine tkI 30 56 rfl (by intro w hSw; obtain ⟨z0, z1, z2, z3, z4, z5⟩ := HBF.out _ hSw; obtain ⟨q0, q1, q2, q3, q4, q5⟩ := HL0.out _ hSw; go_simp <;> with_reducible rfl) hHeld ?_; simp only [pqZ]
            refine wpAnyH_done (by kernel_rfl) ?_ _
            have hBf := HBW.out.trans (hHeld.mono HBW.out.size)
            have own3 := own_below ownW hHeld
            have hsd := HSD.out _ hHeld
            obtain ⟨z0, z1, z2, z3, z4, z5⟩ := HBF.out _ hHeld
            have hzl : wr.heap.size < x3.heap.size := Nat.lt_of_lt_of_le HWL.out hHeld.size
            have hwsz : w.heap.size ≤ x3.heap.size := hBf.size
            clear hHeld
            generalize x3.drew = X at *
            go_wp2_with (first
              | (at_builtin; refine wpList_app rfl (.tmp 57) (.tmp 59) rfl EF8 rfl rfl own3 (m := dl) (news := by8 D) (by rw [by8_length, HDL.out]; omega) hsd (by8_one _) (by unfold maxLen; omega) (by omega) hwsz ?_; intro A4 c4 x4 own4 hg4 hb4)
              | fail)
            rw [← by8_append] at own4
            have hln : (P ++ D).length = P.length + dl := by rw [List.length_append, HDL.out]
            have hB4 := hBf.trans hb4
            go_roundw
            case rel => exact ⟨k + 1, A4, c4, by omega, by rw [HDT.out, hln], rfl, by rw [HDT.out, hln]; exact own4, HAG.out, hB4⟩
            case measure => simp [intOf]; omega
        · obtain rfl : k = n := by omega
          have hj := joinF_good (L := H.map Fh.f) HZ0.out (by rw [List.length_map, HN.out]; exact HP.out) (fun j f hj => by
            have h1 := (List.getElem?_eq_some_iff.1 hj).1
            rw [List.length_map, HN.out] at h1 ⊢
            exact HA.out j f hj h1)
          have ht : (H.map Fh.f).take k = H.map Fh.f := List.take_of_length_le (by rw [List.length_map, HN.out]; exact Nat.le_refl _)
          rw [ht] at own2 ⊢
          have HJ := Lib.hid hj
          clear hj ht
          obtain ⟨P, hP⟩ : ∃ P, dataJ (H.map Fh.f) = P := ⟨_, rfl⟩
          rw [hP] at own2 HJ ⊢
          clear hP
          have hlk : ¬ ((k : Int) < (k : Int)) := by omega
          go_wp2_with fail
          go_ret2
          rw [HJ.out]
          exact ⟨⟨A2, c2, rfl, own2⟩, hB⟩
    · have hJ := joinF_parts (L := H.map Fh.f) (f0 := x0.f) (by rw [List.getElem?_map, List.getElem?_eq_getElem h0, hx0]; rfl) (by rw [List.length_map]; exact hp)
      have HJ := Lib.hid hJ
      have hln : ((H.length : Int) == 0) = false := beq_eq_false_iff_ne.2 (by omega)
      have hlp : ((H.length : Int) != x0.f.parts) = true := by rw [bne_iff_ne]; exact hp
      clear hJ
      go_enter Try.func98, Try.ntmps98
      go_wp2_with fail
      go_ret2
      rw [HJ.out]
      exact ⟨⟨none, 0, rfl, own_nil _ _ _⟩, Below.refl _ _⟩
  · obtain rfl : H = [] := List.eq_nil_of_length_eq_zero (by omega)
    clear hs hd
    have hj : joinF (([] : List Fh).map Fh.f) = ([], false) := rfl
    rw [hj]
    clear hj
    go_enter Try.func98, Try.ntmps98
    go_wp2_with fail
    go_ret2
    exact ⟨⟨none, 0, rfl, own_nil _ _ _⟩, Below.refl _ _⟩
end
end Go.Proofs.Ytiggcpfmmgmncaa
