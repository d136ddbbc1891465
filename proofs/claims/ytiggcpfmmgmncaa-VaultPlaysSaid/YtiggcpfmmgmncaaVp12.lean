import Derived.Test.YtiggcpfmmgmncaaVp11
set_option maxHeartbeats 16000000
set_option maxRecDepth 100000
set_option linter.unusedVariables false
set_option linter.unusedSimpArgs false
namespace Go.Proofs.Ytiggcpfmmgmncaa
open Go.ChangeShapes Go.WideShapes Go.ChangeAt Go.RowKit
section
theorem rcut7_big (life era seq : Int) (A : Option Addr) (n c N : Nat) (w : World) (hn : n ≤ 1000000) (hN : partsN n = N) (hb : 255 < N) :
    Calls Try.prog 59 #[.int .i64 life, .int .i64 era, .int .i64 seq, .slice A n c] w fun e w' => CRes w.heap.size w' e ([], 6) ∧ Below w.heap.size w w' := by
  have hq : ((n : Int) + 79) / 80 = (N : Int) := by unfold partsN at hN; omega
  have hq0 : ¬ (N : Int) = 0 := by omega
  have h2 : (255 : Int) < (N : Int) := by omega
  clear hN hb
  go_enter Try.func59, Try.ntmps59
  go_wp2_with fail
  go_ret2
  exact ⟨CRes.no _ _ _, Below.refl _ _⟩
theorem rcut7_many (life era seq : Int) (A : Option Addr) (c N : Nat) (l : List Nat) (w : World) (hlc : l.length ≤ c) (hcm : c ≤ maxLen) (hs : Sl w A (by8 l)) (ho : Oct l) (hN : partsN l.length = N) (hb : N ≤ 255) (h1 : 0 < N) (hz : 0 < l.length) (hok : (piece life era seq l N 0).ok = true) :
    Calls Try.prog 59 #[.int .i64 life, .int .i64 era, .int .i64 seq, .slice A l.length c] w fun e w' => CRes w.heap.size w' e (cellsF life era seq l N N, 0) ∧ Below w.heap.size w w' := by
  obtain ⟨n, hn⟩ : ∃ n, l.length = n := ⟨_, rfl⟩
  have HL := Lib.hid hn
  rw [hn] at hlc hN hz ⊢
  have hNn : ∀ k, k < N → (80 * k < n ∨ k = 0 ∧ n = 0) ∧ (k + 1 < N → 80 * (k + 1) ≤ n) ∧ n ≤ 80 * N := by unfold partsN at hN; intro k hk; omega
  have HNN := Lib.hid hNn
  have hq : ((n : Int) + 79) / 80 = (N : Int) := by unfold partsN at hN; omega
  have hq0 : ¬ (N : Int) = 0 := by omega
  have hN0 : (0 : Int) ≤ (N : Int) := by omega
  have hq2 : ¬ (255 : Int) < (N : Int) := by omega
  have HSW := Lib.hid hs
  have HN1 := Lib.hid h1
  have HBB := Lib.hid hb
  have HZ := Lib.hid hz
  clear hN hn hNn hs h1 hz
  go_enter Try.func59, Try.ntmps59
  go_wp2_with fail
  go_loopw [11, 12] (fun bv iv wr => ∃ (k : Nat) (A2 : Option Addr) (c2 : Nat) (S2 : List (RowS Nat)), k ≤ N ∧ bv = .slice A2 S2.length c2 ∧ iv = .int .i64 k ∧ wr.ownsRow w.heap.size 36 1 (.slice A2 S2.length c2) S2.length (rc RowS.cells S2) ∧ S2.map RowS.l = cellsF life era seq l N k ∧ OwnRows w.heap.size wr S2 ∧ Below w.heap.size w wr) (fun _ iv _ => N - (intOf iv).toNat)
  case atStart => exact ⟨0, _, _, [], Nat.zero_le _, rfl, rfl, own_nil _ _ _, rfl, (fun s hs => by cases hs), Below.refl _ _⟩
  case round =>
    obtain ⟨k, A2, c2, S2, hk, rfl, rfl, own2, hmap, hown, hB⟩ := hrel
    have HMAP := Lib.hid hmap
    have hSk : S2.length = k := by have := congrArg List.length hmap; rw [List.length_map] at this; rw [this]; simp [cellsF]
    clear hmap
    rw [hSk] at own2 ⊢
    have HSK := Lib.hid hSk
    clear hSk
    by_cases hlt : k < N
    · have hki : (k : Int) < (N : Int) := by have := HN1.out; omega
      obtain ⟨f1, f2, f3⟩ := HNN.out k hlt
      have hb := HBB.out
      have hg1 : (0 : Int) ≤ 80 * (k : Int) := by omega
      have hg2 : 80 * (k : Int) ≤ (n : Int) := by omega
      have hg3 : (n : Int) ≤ (c : Int) := by omega
      have hg4 : (0 : Int) ≤ (n : Int) := by omega
      have htn : (80 * (k : Int)).toNat = 80 * k := by omega
      have hsg : (seg l (80 * k) 80).length = min n (80 * (k + 1)) - 80 * k := by unfold seg; rw [List.length_take, List.length_drop, HL.out]; omega
      have HDL : Hid (∀ d, d = min n (80 * (k + 1)) - 80 * k → d = (seg l (80 * k) 80).length) := Lib.hid fun d hd => by rw [hsg, hd]
      have HENC : Hid (∀ (A' : Option Addr) (d cp : Nat) (V : World), (A' = Option.map (fun x => x.add (80 * k)) A ∨ A' = A ∧ k = 0) → d = (seg l (80 * k) 80).length → Below w.heap.size w V → Calls Try.prog 64 #[.agg #[.int .i64 life, .int .i64 era, .int .i64 seq, .int .i64 k, .int .i64 N, .slice A' d cp]] V fun e w' => ERes V.heap.size w' e (encF (piece life era seq l N k)) ∧ Below V.heap.size V w') := Lib.hid fun A' d cp V hA' hd hV => by
        have hA2 : A' = Option.map (fun x => x.add (80 * k)) A := by
          rcases hA' with h | ⟨h, h0⟩
          · exact h
          · rw [h, h0]; cases A <;> simp [Addr.add]
        subst hA2
        have h := renc7_any (piece life era seq l N k) (Option.map (fun x => x.add (80 * k)) A) cp V (Nat.le_trans (seg_le _ _ _) (by decide)) (slSegO (HSW.out.below hV) _ _) (seg_oct ho _ _)
        have h2 : (piece life era seq l N k).val (Option.map (fun x => x.add (80 * k)) A) cp = .agg #[.int .i64 life, .int .i64 era, .int .i64 seq, .int .i64 k, .int .i64 N, .slice (Option.map (fun x => x.add (80 * k)) A) (seg l (80 * k) 80).length cp] := by
          unfold Fr.val piece
          rfl
        rw [h2] at h
        rw [hd]
        exact h
      have hpk := (piece_ok (life := life) (era := era) (seq := seq) (b := l) hlt hb).trans hok
      have HEF : Hid (encF (piece life era seq l N k) = (sealed (piece life era seq l N k).body, 0)) := Lib.hid (if_pos hpk)
      clear hsg hpk
      have hks : IntKind.i64.wrap ((k : Int) + 1) = (k : Int) + 1 := IntWalk.i64_in _ (by omega)
      have hck : ¬ c = 80 * k := by have := HZ.out; omega
      by_cases hto : (n : Int) < 80 * (k : Int) + 80
      all_goals (have hw1 : IntKind.i64.wrap (80 * (k : Int)) = 80 * (k : Int) := IntWalk.i64_in _ (by omega))
      all_goals (have hw2 : IntKind.i64.wrap (80 * (k : Int) + 80) = 80 * (k : Int) + 80 := IntWalk.i64_in _ (by omega))
      all_goals have hle2 : (80 : Int) * (k : Int) ≤ 80 * (k : Int) + 80 := by omega
      all_goals have htm : (80 * (k : Int) + 80).toNat = 80 * k + 80 := by omega
      all_goals have htq : max (80 * (k : Int)) 0 = 80 * (k : Int) := by omega
      all_goals first | (have hle3 : 80 * (k : Int) + 80 ≤ (n : Int) := by omega; have hle4 : 80 * (k : Int) + 80 ≤ (c : Int) := by omega) | skip
      all_goals go_wp2_with fail
      all_goals refine (HENC.out _ _ _ _ ?_ (HDL.out _ (by omega)) hB).mono ?_
      all_goals first | exact Or.inl rfl | (refine Or.inr ⟨rfl, ?_⟩; omega) | skip
      all_goals rw [HEF.out]
      all_goals rintro e v2 ⟨⟨A5, c5, rfl, own5⟩, hb2⟩
      all_goals have hB2 := since_step hB hb2
      all_goals have own2 := own_below own2 hb2
      all_goals have hown := hown.below hb2
      all_goals have own5 := own_base own5 hB.size
      all_goals have HCS := Lib.hid (cellsF_succ life era seq l N k)
      all_goals (obtain ⟨R, hR⟩ : ∃ R, sealed (piece life era seq l N k).body = R := ⟨_, rfl⟩)
      all_goals rw [hR] at own5 HCS
      all_goals simp only at own5
      all_goals rw [hR]
      all_goals clear hR HENC HDL HEF hb2
      all_goals (go_wp2_with (first
        | (at_builtin; refine wpList_app rfl (.tmp 56) (.tmp 58) rfl ERS rfl rfl (own2.alloc _) (m := 1) (news := [.slice A5 R.length c5]) rfl (Sl.new_ _ _ _) (fun u hu => by simp only [List.mem_cons, List.not_mem_nil, or_false] at hu; subst hu; rfl) (by unfold maxLen; omega) (by omega) (by rw [World.size_alloc]; exact Nat.le_succ_of_le hB2.size) ?_; intro A6 c6 x6 own6 hg6 hb6)
        | fail))
      all_goals have hown6 : OwnRows w.heap.size x6 (S2 ++ [⟨A5, c5, R⟩]) := (fun s hs => by
        rcases List.mem_append.1 hs with hs | hs
        · exact own_kept8 ((hown s hs).alloc _) (own2.alloc _) hg6
        · obtain rfl : s = ⟨A5, c5, R⟩ := by simpa using hs
          exact own_kept8 (own5.alloc _) (own2.alloc _) hg6)
      all_goals have hB6 := (hB2.alloc hB2.size (.cells #[.slice A5 R.length c5] 36)).trans hb6
      all_goals (try simp only [← hck])
      all_goals go_roundw
      all_goals first
        | (exact ⟨k + 1, A6, c6, S2 ++ [⟨A5, c5, R⟩], by omega, by rw [List.length_append, HSK.out]; rfl, rfl, by rw [rc_append, List.length_append, HSK.out]; exact own6, by rw [List.map_append, HMAP.out, HCS.out]; rfl, hown6, hB6⟩)
        | (simp [intOf]; omega)
        | skip
    · obtain rfl : k = N := by omega
      have hki : ¬ (k : Int) < (k : Int) := by have := HN1.out; omega
      go_wp2_with fail
      go_ret2
      exact ⟨⟨A2, c2, S2, by rw [HSK.out]; rfl, by rw [HSK.out]; exact own2, HMAP.out, hown⟩, hB⟩
theorem rcut7_one (life era seq : Int) (A : Option Addr) (c N : Nat) (l : List Nat) (w : World) (hlc : l.length ≤ c) (hcm : c ≤ maxLen) (hs : Sl w A (by8 l)) (ho : Oct l) (hN : partsN l.length = N) (hb : N ≤ 255) (h1 : N = 1) (hz : l.length = 0) (hok : (piece life era seq l N 0).ok = true) :
    Calls Try.prog 59 #[.int .i64 life, .int .i64 era, .int .i64 seq, .slice A l.length c] w fun e w' => CRes w.heap.size w' e (cellsF life era seq l N N, 0) ∧ Below w.heap.size w w' := by
  obtain ⟨n, hn⟩ : ∃ n, l.length = n := ⟨_, rfl⟩
  have HL := Lib.hid hn
  rw [hn] at hlc hN hz ⊢
  have hNn : ∀ k, k < N → (80 * k < n ∨ k = 0 ∧ n = 0) ∧ (k + 1 < N → 80 * (k + 1) ≤ n) ∧ n ≤ 80 * N := by unfold partsN at hN; intro k hk; omega
  have HNN := Lib.hid hNn
  have hq : ((n : Int) + 79) / 80 = 0 := by omega
  have hq2 : ¬ (255 : Int) < 1 := by omega
  have HSW := Lib.hid hs
  have HN1 := Lib.hid h1
  have HBB := Lib.hid hb
  have HZ := Lib.hid hz
  clear hN hn hNn hs h1 hz
  go_enter Try.func59, Try.ntmps59
  go_wp2_with fail
  go_loopw [11, 12] (fun bv iv wr => ∃ (k : Nat) (A2 : Option Addr) (c2 : Nat) (S2 : List (RowS Nat)), k ≤ N ∧ bv = .slice A2 S2.length c2 ∧ iv = .int .i64 k ∧ wr.ownsRow w.heap.size 36 1 (.slice A2 S2.length c2) S2.length (rc RowS.cells S2) ∧ S2.map RowS.l = cellsF life era seq l N k ∧ OwnRows w.heap.size wr S2 ∧ Below w.heap.size w wr) (fun _ iv _ => N - (intOf iv).toNat)
  case atStart => exact ⟨0, _, _, [], Nat.zero_le _, rfl, rfl, own_nil _ _ _, rfl, (fun s hs => by cases hs), Below.refl _ _⟩
  case round =>
    obtain ⟨k, A2, c2, S2, hk, rfl, rfl, own2, hmap, hown, hB⟩ := hrel
    have HMAP := Lib.hid hmap
    have hSk : S2.length = k := by have := congrArg List.length hmap; rw [List.length_map] at this; rw [this]; simp [cellsF]
    clear hmap
    rw [hSk] at own2 ⊢
    have HSK := Lib.hid hSk
    clear hSk
    by_cases hlt : k < N
    · have hki : (k : Int) < 1 := by have := HN1.out; omega
      obtain ⟨f1, f2, f3⟩ := HNN.out k hlt
      have hb := HBB.out
      have hg1 : (0 : Int) ≤ 80 * (k : Int) := by omega
      have hg2 : 80 * (k : Int) ≤ (n : Int) := by omega
      have hg3 : (n : Int) ≤ (c : Int) := by omega
      have hg4 : (0 : Int) ≤ (n : Int) := by omega
      have htn : (80 * (k : Int)).toNat = 80 * k := by omega
      have hsg : (seg l (80 * k) 80).length = min n (80 * (k + 1)) - 80 * k := by unfold seg; rw [List.length_take, List.length_drop, HL.out]; omega
      have HDL : Hid (∀ d, d = min n (80 * (k + 1)) - 80 * k → d = (seg l (80 * k) 80).length) := Lib.hid fun d hd => by rw [hsg, hd]
      have HENC : Hid (∀ (A' : Option Addr) (d cp : Nat) (V : World), (A' = Option.map (fun x => x.add (80 * k)) A ∨ A' = A ∧ k = 0) → d = (seg l (80 * k) 80).length → Below w.heap.size w V → Calls Try.prog 64 #[.agg #[.int .i64 life, .int .i64 era, .int .i64 seq, .int .i64 k, .int .i64 1, .slice A' d cp]] V fun e w' => ERes V.heap.size w' e (encF (piece life era seq l N k)) ∧ Below V.heap.size V w') := Lib.hid fun A' d cp V hA' hd hV => by
        have hA2 : A' = Option.map (fun x => x.add (80 * k)) A := by
          rcases hA' with h | ⟨h, h0⟩
          · exact h
          · rw [h, h0]; cases A <;> simp [Addr.add]
        subst hA2
        have h := renc7_any (piece life era seq l N k) (Option.map (fun x => x.add (80 * k)) A) cp V (Nat.le_trans (seg_le _ _ _) (by decide)) (slSegO (HSW.out.below hV) _ _) (seg_oct ho _ _)
        have h2 : (piece life era seq l N k).val (Option.map (fun x => x.add (80 * k)) A) cp = .agg #[.int .i64 life, .int .i64 era, .int .i64 seq, .int .i64 k, .int .i64 1, .slice (Option.map (fun x => x.add (80 * k)) A) (seg l (80 * k) 80).length cp] := by
          unfold Fr.val piece
          simp only; rw [show ((N : Nat) : Int) = 1 by have := HN1.out; omega]
        rw [h2] at h
        rw [hd]
        exact h
      have hpk := (piece_ok (life := life) (era := era) (seq := seq) (b := l) hlt hb).trans hok
      have HEF : Hid (encF (piece life era seq l N k) = (sealed (piece life era seq l N k).body, 0)) := Lib.hid (if_pos hpk)
      clear hsg hpk
      have hks : IntKind.i64.wrap ((k : Int) + 1) = (k : Int) + 1 := IntWalk.i64_in _ (by omega)
      by_cases hck : c = 80 * k
      all_goals have hto : (n : Int) < 80 * (k : Int) + 80 := by have := HZ.out; omega
      all_goals (have hw1 : IntKind.i64.wrap (80 * (k : Int)) = 80 * (k : Int) := IntWalk.i64_in _ (by omega))
      all_goals (have hw2 : IntKind.i64.wrap (80 * (k : Int) + 80) = 80 * (k : Int) + 80 := IntWalk.i64_in _ (by omega))
      all_goals have hle2 : (80 : Int) * (k : Int) ≤ 80 * (k : Int) + 80 := by omega
      all_goals have htm : (80 * (k : Int) + 80).toNat = 80 * k + 80 := by omega
      all_goals have htq : max (80 * (k : Int)) 0 = 80 * (k : Int) := by omega
      all_goals first | (have hle3 : 80 * (k : Int) + 80 ≤ (n : Int) := by omega; have hle4 : 80 * (k : Int) + 80 ≤ (c : Int) := by omega) | skip
      all_goals go_wp2_with fail
      all_goals refine (HENC.out _ _ _ _ ?_ (HDL.out _ (by omega)) hB).mono ?_
      all_goals first | exact Or.inl rfl | (refine Or.inr ⟨rfl, ?_⟩; omega) | skip
      all_goals rw [HEF.out]
      all_goals rintro e v2 ⟨⟨A5, c5, rfl, own5⟩, hb2⟩
      all_goals have hB2 := since_step hB hb2
      all_goals have own2 := own_below own2 hb2
      all_goals have hown := hown.below hb2
      all_goals have own5 := own_base own5 hB.size
      all_goals have HCS := Lib.hid (cellsF_succ life era seq l N k)
      all_goals (obtain ⟨R, hR⟩ : ∃ R, sealed (piece life era seq l N k).body = R := ⟨_, rfl⟩)
      all_goals rw [hR] at own5 HCS
      all_goals simp only at own5
      all_goals rw [hR]
      all_goals clear hR HENC HDL HEF hb2
      all_goals (go_wp2_with (first
        | (at_builtin; refine wpList_app rfl (.tmp 56) (.tmp 58) rfl ERS rfl rfl (own2.alloc _) (m := 1) (news := [.slice A5 R.length c5]) rfl (Sl.new_ _ _ _) (fun u hu => by simp only [List.mem_cons, List.not_mem_nil, or_false] at hu; subst hu; rfl) (by unfold maxLen; omega) (by omega) (by rw [World.size_alloc]; exact Nat.le_succ_of_le hB2.size) ?_; intro A6 c6 x6 own6 hg6 hb6)
        | fail))
      all_goals have hown6 : OwnRows w.heap.size x6 (S2 ++ [⟨A5, c5, R⟩]) := (fun s hs => by
        rcases List.mem_append.1 hs with hs | hs
        · exact own_kept8 ((hown s hs).alloc _) (own2.alloc _) hg6
        · obtain rfl : s = ⟨A5, c5, R⟩ := by simpa using hs
          exact own_kept8 (own5.alloc _) (own2.alloc _) hg6)
      all_goals have hB6 := (hB2.alloc hB2.size (.cells #[.slice A5 R.length c5] 36)).trans hb6
      all_goals (try simp only [← hck])
      all_goals go_roundw
      all_goals first
        | (exact ⟨k + 1, A6, c6, S2 ++ [⟨A5, c5, R⟩], by omega, by rw [List.length_append, HSK.out]; rfl, rfl, by rw [rc_append, List.length_append, HSK.out]; exact own6, by rw [List.map_append, HMAP.out, HCS.out]; rfl, hown6, hB6⟩)
        | (simp [intOf]; omega)
        | skip
    · obtain rfl : k = N := by omega
      have hki : ¬ (k : Int) < 1 := by have := HN1.out; omega
      go_wp2_with fail
      go_ret2
      exact ⟨⟨A2, c2, S2, by rw [HSK.out]; rfl, by rw [HSK.out]; exact own2, HMAP.out, hown⟩, hB⟩
theorem rcut7_many_no (life era seq : Int) (A : Option Addr) (c N : Nat) (l : List Nat) (w : World) (hlc : l.length ≤ c) (hcm : c ≤ maxLen) (hs : Sl w A (by8 l)) (ho : Oct l) (hN : partsN l.length = N) (hb : N ≤ 255) (h1 : 0 < N) (hz : 0 < l.length) (hok : (piece life era seq l N 0).ok = false) :
    Calls Try.prog 59 #[.int .i64 life, .int .i64 era, .int .i64 seq, .slice A l.length c] w fun e w' => CRes w.heap.size w' e ([], 2) ∧ Below w.heap.size w w' := by
  obtain ⟨n, hn⟩ : ∃ n, l.length = n := ⟨_, rfl⟩
  have HL := Lib.hid hn
  rw [hn] at hlc hN hz ⊢
  have hNn : ∀ k, k < N → (80 * k < n ∨ k = 0 ∧ n = 0) ∧ (k + 1 < N → 80 * (k + 1) ≤ n) ∧ n ≤ 80 * N := by unfold partsN at hN; intro k hk; omega
  have HNN := Lib.hid hNn
  have hq : ((n : Int) + 79) / 80 = (N : Int) := by unfold partsN at hN; omega
  have hq0 : ¬ (N : Int) = 0 := by omega
  have hN0 : (0 : Int) ≤ (N : Int) := by omega
  have hq2 : ¬ (255 : Int) < (N : Int) := by omega
  have HSW := Lib.hid hs
  have HN1 := Lib.hid h1
  have HBB := Lib.hid hb
  have HZ := Lib.hid hz
  clear hN hn hNn hs h1 hz
  go_enter Try.func59, Try.ntmps59
  go_wp2_with fail
  go_loopw [11, 12] (fun bv iv wr => ∃ (k : Nat) (A2 : Option Addr) (c2 : Nat) (S2 : List (RowS Nat)), k ≤ N ∧ bv = .slice A2 S2.length c2 ∧ iv = .int .i64 k ∧ wr.ownsRow w.heap.size 36 1 (.slice A2 S2.length c2) S2.length (rc RowS.cells S2) ∧ S2.map RowS.l = cellsF life era seq l N k ∧ OwnRows w.heap.size wr S2 ∧ Below w.heap.size w wr ∧ k = 0) (fun _ iv _ => N - (intOf iv).toNat)
  case atStart => exact ⟨0, _, _, [], Nat.zero_le _, rfl, rfl, own_nil _ _ _, rfl, (fun s hs => by cases hs), Below.refl _ _, rfl⟩
  case round =>
    obtain ⟨k, A2, c2, S2, hk, rfl, rfl, own2, hmap, hown, hB, hk0⟩ := hrel
    have HMAP := Lib.hid hmap
    have hSk : S2.length = k := by have := congrArg List.length hmap; rw [List.length_map] at this; rw [this]; simp [cellsF]
    clear hmap
    rw [hSk] at own2 ⊢
    have HSK := Lib.hid hSk
    clear hSk
    by_cases hlt : k < N
    · have hki : (k : Int) < (N : Int) := by have := HN1.out; omega
      obtain ⟨f1, f2, f3⟩ := HNN.out k hlt
      have hb := HBB.out
      have hg1 : (0 : Int) ≤ 80 * (k : Int) := by omega
      have hg2 : 80 * (k : Int) ≤ (n : Int) := by omega
      have hg3 : (n : Int) ≤ (c : Int) := by omega
      have hg4 : (0 : Int) ≤ (n : Int) := by omega
      have htn : (80 * (k : Int)).toNat = 80 * k := by omega
      have hsg : (seg l (80 * k) 80).length = min n (80 * (k + 1)) - 80 * k := by unfold seg; rw [List.length_take, List.length_drop, HL.out]; omega
      have HDL : Hid (∀ d, d = min n (80 * (k + 1)) - 80 * k → d = (seg l (80 * k) 80).length) := Lib.hid fun d hd => by rw [hsg, hd]
      have HENC : Hid (∀ (A' : Option Addr) (d cp : Nat) (V : World), (A' = Option.map (fun x => x.add (80 * k)) A ∨ A' = A ∧ k = 0) → d = (seg l (80 * k) 80).length → Below w.heap.size w V → Calls Try.prog 64 #[.agg #[.int .i64 life, .int .i64 era, .int .i64 seq, .int .i64 k, .int .i64 N, .slice A' d cp]] V fun e w' => ERes V.heap.size w' e (encF (piece life era seq l N k)) ∧ Below V.heap.size V w') := Lib.hid fun A' d cp V hA' hd hV => by
        have hA2 : A' = Option.map (fun x => x.add (80 * k)) A := by
          rcases hA' with h | ⟨h, h0⟩
          · exact h
          · rw [h, h0]; cases A <;> simp [Addr.add]
        subst hA2
        have h := renc7_any (piece life era seq l N k) (Option.map (fun x => x.add (80 * k)) A) cp V (Nat.le_trans (seg_le _ _ _) (by decide)) (slSegO (HSW.out.below hV) _ _) (seg_oct ho _ _)
        have h2 : (piece life era seq l N k).val (Option.map (fun x => x.add (80 * k)) A) cp = .agg #[.int .i64 life, .int .i64 era, .int .i64 seq, .int .i64 k, .int .i64 N, .slice (Option.map (fun x => x.add (80 * k)) A) (seg l (80 * k) 80).length cp] := by
          unfold Fr.val piece
          rfl
        rw [h2] at h
        rw [hd]
        exact h
      have hpk : (piece life era seq l N k).ok = false := by rw [hk0]; exact hok
      have HEF : Hid (encF (piece life era seq l N k) = ([], 2)) := Lib.hid (if_neg (by rw [hpk]; decide))
      clear hsg hpk hk0
      have hks : IntKind.i64.wrap ((k : Int) + 1) = (k : Int) + 1 := IntWalk.i64_in _ (by omega)
      have hck : ¬ c = 80 * k := by have := HZ.out; omega
      by_cases hto : (n : Int) < 80 * (k : Int) + 80
      all_goals (have hw1 : IntKind.i64.wrap (80 * (k : Int)) = 80 * (k : Int) := IntWalk.i64_in _ (by omega))
      all_goals (have hw2 : IntKind.i64.wrap (80 * (k : Int) + 80) = 80 * (k : Int) + 80 := IntWalk.i64_in _ (by omega))
      all_goals have hle2 : (80 : Int) * (k : Int) ≤ 80 * (k : Int) + 80 := by omega
      all_goals have htm : (80 * (k : Int) + 80).toNat = 80 * k + 80 := by omega
      all_goals have htq : max (80 * (k : Int)) 0 = 80 * (k : Int) := by omega
      all_goals first | (have hle3 : 80 * (k : Int) + 80 ≤ (n : Int) := by omega; have hle4 : 80 * (k : Int) + 80 ≤ (c : Int) := by omega) | skip
      all_goals go_wp2_with fail
      all_goals refine (HENC.out _ _ _ _ ?_ (HDL.out _ (by omega)) hB).mono ?_
      all_goals first | exact Or.inl rfl | (refine Or.inr ⟨rfl, ?_⟩; omega) | skip
      all_goals rw [HEF.out]
      all_goals rintro e v2 ⟨⟨A5, c5, rfl, own5⟩, hb2⟩
      all_goals have hB2 := since_step hB hb2
      all_goals go_wp2_with fail
      all_goals go_ret2
      all_goals exact ⟨CRes.no _ _ _, hB2⟩
    · have := HN1.out; omega
theorem rcut7_one_no (life era seq : Int) (A : Option Addr) (c N : Nat) (l : List Nat) (w : World) (hlc : l.length ≤ c) (hcm : c ≤ maxLen) (hs : Sl w A (by8 l)) (ho : Oct l) (hN : partsN l.length = N) (hb : N ≤ 255) (h1 : N = 1) (hz : l.length = 0) (hok : (piece life era seq l N 0).ok = false) :
    Calls Try.prog 59 #[.int .i64 life, .int .i64 era, .int .i64 seq, .slice A l.length c] w fun e w' => CRes w.heap.size w' e ([], 2) ∧ Below w.heap.size w w' := by
  obtain ⟨n, hn⟩ : ∃ n, l.length = n := ⟨_, rfl⟩
  have HL := Lib.hid hn
  rw [hn] at hlc hN hz ⊢
  have hNn : ∀ k, k < N → (80 * k < n ∨ k = 0 ∧ n = 0) ∧ (k + 1 < N → 80 * (k + 1) ≤ n) ∧ n ≤ 80 * N := by unfold partsN at hN; intro k hk; omega
  have HNN := Lib.hid hNn
  have hq : ((n : Int) + 79) / 80 = 0 := by omega
  have hq2 : ¬ (255 : Int) < 1 := by omega
  have HSW := Lib.hid hs
  have HN1 := Lib.hid h1
  have HBB := Lib.hid hb
  have HZ := Lib.hid hz
  clear hN hn hNn hs h1 hz
  go_enter Try.func59, Try.ntmps59
  go_wp2_with fail
  go_loopw [11, 12] (fun bv iv wr => ∃ (k : Nat) (A2 : Option Addr) (c2 : Nat) (S2 : List (RowS Nat)), k ≤ N ∧ bv = .slice A2 S2.length c2 ∧ iv = .int .i64 k ∧ wr.ownsRow w.heap.size 36 1 (.slice A2 S2.length c2) S2.length (rc RowS.cells S2) ∧ S2.map RowS.l = cellsF life era seq l N k ∧ OwnRows w.heap.size wr S2 ∧ Below w.heap.size w wr ∧ k = 0) (fun _ iv _ => N - (intOf iv).toNat)
  case atStart => exact ⟨0, _, _, [], Nat.zero_le _, rfl, rfl, own_nil _ _ _, rfl, (fun s hs => by cases hs), Below.refl _ _, rfl⟩
  case round =>
    obtain ⟨k, A2, c2, S2, hk, rfl, rfl, own2, hmap, hown, hB, hk0⟩ := hrel
    have HMAP := Lib.hid hmap
    have hSk : S2.length = k := by have := congrArg List.length hmap; rw [List.length_map] at this; rw [this]; simp [cellsF]
    clear hmap
    rw [hSk] at own2 ⊢
    have HSK := Lib.hid hSk
    clear hSk
    by_cases hlt : k < N
    · have hki : (k : Int) < 1 := by have := HN1.out; omega
      obtain ⟨f1, f2, f3⟩ := HNN.out k hlt
      have hb := HBB.out
      have hg1 : (0 : Int) ≤ 80 * (k : Int) := by omega
      have hg2 : 80 * (k : Int) ≤ (n : Int) := by omega
      have hg3 : (n : Int) ≤ (c : Int) := by omega
      have hg4 : (0 : Int) ≤ (n : Int) := by omega
      have htn : (80 * (k : Int)).toNat = 80 * k := by omega
      have hsg : (seg l (80 * k) 80).length = min n (80 * (k + 1)) - 80 * k := by unfold seg; rw [List.length_take, List.length_drop, HL.out]; omega
      have HDL : Hid (∀ d, d = min n (80 * (k + 1)) - 80 * k → d = (seg l (80 * k) 80).length) := Lib.hid fun d hd => by rw [hsg, hd]
      have HENC : Hid (∀ (A' : Option Addr) (d cp : Nat) (V : World), (A' = Option.map (fun x => x.add (80 * k)) A ∨ A' = A ∧ k = 0) → d = (seg l (80 * k) 80).length → Below w.heap.size w V → Calls Try.prog 64 #[.agg #[.int .i64 life, .int .i64 era, .int .i64 seq, .int .i64 k, .int .i64 1, .slice A' d cp]] V fun e w' => ERes V.heap.size w' e (encF (piece life era seq l N k)) ∧ Below V.heap.size V w') := Lib.hid fun A' d cp V hA' hd hV => by
        have hA2 : A' = Option.map (fun x => x.add (80 * k)) A := by
          rcases hA' with h | ⟨h, h0⟩
          · exact h
          · rw [h, h0]; cases A <;> simp [Addr.add]
        subst hA2
        have h := renc7_any (piece life era seq l N k) (Option.map (fun x => x.add (80 * k)) A) cp V (Nat.le_trans (seg_le _ _ _) (by decide)) (slSegO (HSW.out.below hV) _ _) (seg_oct ho _ _)
        have h2 : (piece life era seq l N k).val (Option.map (fun x => x.add (80 * k)) A) cp = .agg #[.int .i64 life, .int .i64 era, .int .i64 seq, .int .i64 k, .int .i64 1, .slice (Option.map (fun x => x.add (80 * k)) A) (seg l (80 * k) 80).length cp] := by
          unfold Fr.val piece
          simp only; rw [show ((N : Nat) : Int) = 1 by have := HN1.out; omega]
        rw [h2] at h
        rw [hd]
        exact h
      have hpk : (piece life era seq l N k).ok = false := by rw [hk0]; exact hok
      have HEF : Hid (encF (piece life era seq l N k) = ([], 2)) := Lib.hid (if_neg (by rw [hpk]; decide))
      clear hsg hpk hk0
      have hks : IntKind.i64.wrap ((k : Int) + 1) = (k : Int) + 1 := IntWalk.i64_in _ (by omega)
      by_cases hck : c = 80 * k
      all_goals have hto : (n : Int) < 80 * (k : Int) + 80 := by have := HZ.out; omega
      all_goals (have hw1 : IntKind.i64.wrap (80 * (k : Int)) = 80 * (k : Int) := IntWalk.i64_in _ (by omega))
      all_goals (have hw2 : IntKind.i64.wrap (80 * (k : Int) + 80) = 80 * (k : Int) + 80 := IntWalk.i64_in _ (by omega))
      all_goals have hle2 : (80 : Int) * (k : Int) ≤ 80 * (k : Int) + 80 := by omega
      all_goals have htm : (80 * (k : Int) + 80).toNat = 80 * k + 80 := by omega
      all_goals have htq : max (80 * (k : Int)) 0 = 80 * (k : Int) := by omega
      all_goals first | (have hle3 : 80 * (k : Int) + 80 ≤ (n : Int) := by omega; have hle4 : 80 * (k : Int) + 80 ≤ (c : Int) := by omega) | skip
      all_goals go_wp2_with fail
      all_goals refine (HENC.out _ _ _ _ ?_ (HDL.out _ (by omega)) hB).mono ?_
      all_goals first | exact Or.inl rfl | (refine Or.inr ⟨rfl, ?_⟩; omega) | skip
      all_goals rw [HEF.out]
      all_goals rintro e v2 ⟨⟨A5, c5, rfl, own5⟩, hb2⟩
      all_goals have hB2 := since_step hB hb2
      all_goals go_wp2_with fail
      all_goals go_ret2
      all_goals exact ⟨CRes.no _ _ _, hB2⟩
    · have := HN1.out; omega
theorem rcut7_any (life era seq : Int) (A : Option Addr) (c : Nat) (l : List Nat) (w : World) (hlc : l.length ≤ c) (hcm : c ≤ maxLen) (hl : l.length ≤ 1000000) (hs : Sl w A (by8 l)) (ho : Oct l) :
    Calls Try.prog 59 #[.int .i64 life, .int .i64 era, .int .i64 seq, .slice A l.length c] w fun e w' => CRes w.heap.size w' e (cutF life era seq l) ∧ Below w.heap.size w w' := by
  obtain ⟨N, hN⟩ : ∃ N, partsN l.length = N := ⟨_, rfl⟩
  have hp := partsN_pos l.length
  by_cases hb : 255 < N
  · have hc : cutF life era seq l = ([], 6) := if_pos (by rw [hN]; exact hb)
    rw [hc]
    exact rcut7_big life era seq A l.length c N w hl hN hb
  · have hb2 : ¬ 255 < partsN l.length := by rw [hN]; exact hb
    cases hok : (piece life era seq l N 0).ok with
    | true =>
      have hc : cutF life era seq l = (cellsF life era seq l N N, 0) := by
        unfold cutF; rw [if_neg hb2, hN, if_pos hok]
      rw [hc]
      rcases (by omega : l.length = 0 ∨ 0 < l.length) with h1 | h1
      · exact rcut7_one life era seq A c N l w hlc hcm hs ho hN (by omega) (by unfold partsN at hN; omega) h1 hok
      · exact rcut7_many life era seq A c N l w hlc hcm hs ho hN (by omega) (by omega) h1 hok
    | false =>
      have hc : cutF life era seq l = ([], 2) := by
        unfold cutF; rw [if_neg hb2, hN, if_neg (by rw [hok]; decide)]
      rw [hc]
      rcases (by omega : l.length = 0 ∨ 0 < l.length) with h1 | h1
      · exact rcut7_one_no life era seq A c N l w hlc hcm hs ho hN (by omega) (by unfold partsN at hN; omega) h1 hok
      · exact rcut7_many_no life era seq A c N l w hlc hcm hs ho hN (by omega) (by omega) h1 hok
end
section
theorem oct_sealed {l : List Nat} (h : Oct l) : Oct (sealed l) := h.app (fun x hx => by
  have hm := CrcM.more_lt 11994318 l (by omega) h
  simp only [three, List.mem_cons, List.not_mem_nil, or_false] at hx
  rcases hx with rfl | rfl | rfl <;> omega)
theorem own_max {w : World} {base e size n c : Nat} {A : Option Addr} {xs : List Value} (h : w.ownsRow base e size (.slice A n c) n xs) : c ≤ maxLen := by
  rcases h.2 with ⟨e, _⟩ | ⟨g, cap, cur, e, _, _, _, hcm, _⟩
  · injection e with _ _ e3; subst e3; unfold maxLen; omega
  · injection e with _ _ e3; subst e3; exact hcm
end
section
theorem rc_oct8 (l : List Nat) : rc (fun n : Nat => [Value.int .u8 (n : Int)]) l = by8 l := by
  unfold rc by8
  induction l with
  | nil => rfl
  | cons a l ih => simp only [List.map_cons, List.flatten_cons, ih]; rfl
theorem rd_oct {w : World} {r : List Value} (h : Rd w (.int .u8) r) : ∃ n : Nat, r = [.int .u8 (n : Int)] ∧ n < 256 := by
  obtain ⟨n, rfl, hn⟩ := h
  have := bd_u8 hn
  exact ⟨n.toNat, by rw [show ((n.toNat : Nat) : Int) = n by omega], by omega⟩
theorem rd_octs {w : World} {A : Option Addr} {n c : Nat} (h : Rd w (.sl (.int .u8)) [.slice A n c]) : ∃ l : List Nat, l.length = n ∧ n ≤ c ∧ c ≤ maxLen ∧ Sl w A (by8 l) ∧ Oct l := by
  obtain ⟨l8, h1, h2, h3, h4, h5⟩ := rd_rowsP (f := fun n : Nat => [Value.int .u8 (n : Int)]) (fun r => rd_oct) h
  rw [rc_oct8] at h4
  exact ⟨l8, h1, h2, h3, h4, h5⟩
end
end Go.Proofs.Ytiggcpfmmgmncaa
