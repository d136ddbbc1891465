import Derived.Test.YtiggcpfmmgmncaaVp09
import Derived.Test.YtiggcpfmmgmncaaVp10
set_option maxHeartbeats 16000000
set_option maxRecDepth 100000
set_option linter.unusedVariables false
set_option linter.unusedSimpArgs false
namespace Go.Proofs.Ytiggcpfmmgmncaa
open Go.ChangeShapes Go.WideShapes Go.ChangeAt Go.RowKit
section
def piece (life era seq : Int) (b : List Nat) (n k : Nat) : Fr := ⟨life, era, seq, k, n, seg b (80 * k) 80⟩
def partsN (n : Nat) : Nat := max 1 ((n + 79) / 80)
def cellsF (life era seq : Int) (b : List Nat) (n k : Nat) : List (List Nat) := (List.range k).map fun j => sealed (piece life era seq b n j).body
def cutF (life era seq : Int) (b : List Nat) : List (List Nat) × Int :=
  if 255 < partsN b.length then ([], 6) else if (piece life era seq b (partsN b.length) 0).ok = true then (cellsF life era seq b (partsN b.length) (partsN b.length), 0) else ([], 2)
theorem seg_le (b : List Nat) (n m : Nat) : (seg b n m).length ≤ m := by
  unfold seg; rw [List.length_take]; omega
theorem piece_ok {life era seq : Int} {b : List Nat} {n k : Nat} (hk : k < n) (hn : n ≤ 255) : (piece life era seq b n k).ok = (piece life era seq b n 0).ok := by
  unfold Fr.ok piece
  simp only
  have h1 := seg_le b (80 * k) 80
  have h2 := seg_le b (80 * 0) 80
  have e1 : decide ((0 : Int) ≤ (k : Nat)) = decide ((0 : Int) ≤ (0 : Nat)) := by rw [decide_eq_true (by omega), decide_eq_true (by omega)]
  have e2 : decide (((k : Nat) : Int) < (n : Int)) = decide (((0 : Nat) : Int) < (n : Int)) := by rw [decide_eq_true (by omega), decide_eq_true (by omega)]
  have e3 : decide ((seg b (80 * k) 80).length ≤ 80) = decide ((seg b (80 * 0) 80).length ≤ 80) := by rw [decide_eq_true h1, decide_eq_true h2]
  rw [e1, e2, e3]
theorem cellsF_succ (life era seq : Int) (b : List Nat) (n k : Nat) : cellsF life era seq b n (k + 1) = cellsF life era seq b n k ++ [sealed (piece life era seq b n k).body] := by
  unfold cellsF
  rw [List.range_succ, List.map_append]; rfl
theorem ERS : Elem Try.prog 47 36 1 24 := Elem.mk' (z := .slice none 0 0) (by kernel_rfl) (by kernel_rfl) (by decide) (by decide)
def OwnRows (B : Nat) (w : World) (S : List (RowS Nat)) : Prop := ∀ s ∈ S, w.ownsRow B 5 1 (.slice s.A s.l.length s.c) s.l.length (by8 s.l)
theorem OwnRows.below {B : Nat} {w w' : World} {S : List (RowS Nat)} (h : OwnRows B w S) (hb : Below w.heap.size w w') : OwnRows B w' S := fun s hs => own_below (h s hs) hb
theorem own_kept8 {w w' : World} {B B' : Nat} {v v' : Value} {n n' : Nat} {xs ys : List Value} (h : w.ownsRow B 5 1 v n xs) (ho : w.ownsRow B' 36 1 v' n' ys) (hg : w.grownBy w' v'.ownBlock) : w'.ownsRow B 5 1 v n xs := by
  refine h.kept hg ?_
  rcases h.2 with ⟨rfl, _⟩ | ⟨g, cap, cur, rfl, _, hh, _⟩
  · exact .inl rfl
  · right
    rcases ho.2 with ⟨rfl, _⟩ | ⟨g', cap', cur', rfl, _, hh', _⟩
    · simp [Value.ownBlock]
    · simp only [Value.ownBlock, ne_eq, Option.some.injEq]
      intro e
      subst e
      rw [hh] at hh'
      injection hh' with hh'
      injection hh' with _ e
      exact absurd e (by decide)
def CRes (B : Nat) (w' : World) (e : Ending) (R : List (List Nat) × Int) : Prop := ∃ A' c' S, e = .returned (.tuple #[.slice A' (S : List (RowS Nat)).length c', .int .i64 R.2]) ∧ w'.ownsRow B 36 1 (.slice A' S.length c') S.length (rc RowS.cells S) ∧ S.map RowS.l = R.1 ∧ OwnRows B w' S
theorem CRes.no (B : Nat) (w' : World) (z : Int) : CRes B w' (.returned (.tuple #[.slice none 0 0, .int .i64 z])) ([], z) := ⟨none, 0, [], rfl, own_nil _ _ _, rfl, fun s hs => by cases hs⟩
theorem partsN_pos (n : Nat) : 0 < partsN n := by unfold partsN; omega
theorem fenc7_any (f : Fr) (A : Option Addr) (c : Nat) (w : World) (hs : Sl w A (by8 f.data)) (ho : Oct f.data) :
    Calls Try.prog 80 #[f.val A c] w fun e w' => ERes w.heap.size w' e (encF f) ∧ Below w.heap.size w w' := by
  cases h : f.ok with
  | true => exact fenc7_ok f A c w h hs ho
  | false => exact fenc7_bad f A c w h
theorem fcut7_big (life era seq : Int) (A : Option Addr) (n c N : Nat) (w : World) (hn : n ≤ 1000000) (hN : partsN n = N) (hb : 255 < N) :
    Calls Try.prog 54 #[.int .i64 life, .int .i64 era, .int .i64 seq, .slice A n c] w fun e w' => CRes w.heap.size w' e ([], 6) ∧ Below w.heap.size w w' := by
  have hq : ((n : Int) + 80 - 1) / 80 = (N : Int) := by unfold partsN at hN; omega
  have h1 : (1 : Int) < (N : Int) := by omega
  have h2 : (255 : Int) < (N : Int) := by omega
  clear hN hb
  go_enter Try.func54, Try.ntmps54
  go_wp2_with fail
  go_ret2
  exact ⟨CRes.no _ _ _, Below.refl _ _⟩
theorem slSegO {w : World} {A : Option Addr} {l : List Nat} (h : Sl w A (by8 l)) (n m : Nat) : Sl w (Option.map (fun x => x.add n) A) (by8 (seg l n m)) := by
  intro hne
  obtain ⟨b, o, rfl, _⟩ := h (by rintro e; exact hne (by unfold seg; rw [by8_take, by8_drop, e]; simp))
  have := h.seg n m hne
  rw [Option.map_some, addr_add]
  exact this
theorem fcut7_many (life era seq : Int) (A : Option Addr) (c N : Nat) (l : List Nat) (w : World) (hlc : l.length ≤ c) (hcm : c ≤ maxLen) (hs : Sl w A (by8 l)) (ho : Oct l) (hN : partsN l.length = N) (hb : N ≤ 255) (h1 : 1 < N) (hok : (piece life era seq l N 0).ok = true) :
    Calls Try.prog 54 #[.int .i64 life, .int .i64 era, .int .i64 seq, .slice A l.length c] w fun e w' => CRes w.heap.size w' e (cellsF life era seq l N N, 0) ∧ Below w.heap.size w w' := by
  obtain ⟨n, hn⟩ : ∃ n, l.length = n := ⟨_, rfl⟩
  have HL := Lib.hid hn
  rw [hn] at hlc hN ⊢
  have hNn : ∀ k, k < N → (80 * k < n ∨ k = 0 ∧ n = 0) ∧ (k + 1 < N → 80 * (k + 1) ≤ n) ∧ n ≤ 80 * N := by unfold partsN at hN; intro k hk; omega
  have HNN := Lib.hid hNn
  have hq : ((n : Int) + 80 - 1) / 80 = (N : Int) := by unfold partsN at hN; omega
  have hq1 : (1 : Int) < (N : Int) := by omega
  have hq2 : ¬ (255 : Int) < (N : Int) := by omega
  have hN0 : (0 : Int) ≤ (N : Int) := by omega
  have HSW := Lib.hid hs
  have HN1 := Lib.hid h1
  have HBB := Lib.hid hb
  clear hN hn hNn hs h1
  go_enter Try.func54, Try.ntmps54
  go_wp2_with (first
    | (at_make; refine wpList_mk rfl (.const (.int .i64 0)) (.tmp 24) rfl ERS N rfl rfl (by have := HN1.out; omega) (by have := HN1.out; omega) (by unfold maxLen; have := HN1.out; omega) (Nat.le_refl _) ?_; intro w1 own1 hb1)
    | fail)
  go_loopw [11, 27] (fun bv iv wr => ∃ (k : Nat) (A2 : Option Addr) (c2 : Nat) (S2 : List (RowS Nat)), k ≤ N ∧ bv = .slice A2 S2.length c2 ∧ iv = .int .i64 k ∧ wr.ownsRow w.heap.size 36 1 (.slice A2 S2.length c2) S2.length (rc RowS.cells S2) ∧ S2.map RowS.l = cellsF life era seq l N k ∧ OwnRows w.heap.size wr S2 ∧ Below w.heap.size w wr) (fun _ iv _ => N - (intOf iv).toNat)
  case atStart => exact ⟨0, _, _, [], Nat.zero_le _, rfl, rfl, own1, rfl, (fun s hs => by cases hs), hb1⟩
  case round =>
    obtain ⟨k, A2, c2, S2, hk, rfl, rfl, own2, hmap, hown, hB⟩ := hrel
    have HMAP := Lib.hid hmap
    have hSk : S2.length = k := by have := congrArg List.length hmap; rw [List.length_map] at this; rw [this]; simp [cellsF]
    clear hmap own1 hb1
    rw [hSk] at own2 ⊢
    have HSK := Lib.hid hSk
    clear hSk
    by_cases hlt : k < N
    · have hki : (k : Int) < (N : Int) := by have := HN1.out; omega
      obtain ⟨f1, f2, f3⟩ := HNN.out k hlt
      have hb := HBB.out
      have hg1 : (0 : Int) ≤ (k : Int) * 80 := by omega
      have hg2 : (k : Int) * 80 ≤ (n : Int) := by omega
      have hg3 : (n : Int) ≤ (c : Int) := by omega
      have hg4 : (0 : Int) ≤ (n : Int) := by omega
      have htn : ((k : Int) * 80).toNat = 80 * k := by omega
      have hsg : (seg l (80 * k) 80).length = min n (80 * (k + 1)) - 80 * k := by unfold seg; rw [List.length_take, List.length_drop, HL.out]; omega
      have HDL : Hid (∀ d, d = min n (80 * (k + 1)) - 80 * k → d = (seg l (80 * k) 80).length) := Lib.hid fun d hd => by rw [hsg, hd]
      have HENC : Hid (∀ (A' : Option Addr) (d cp : Nat) (V : World), (A' = Option.map (fun x => x.add (80 * k)) A ∨ A' = A ∧ k = 0) → d = (seg l (80 * k) 80).length → Below w.heap.size w V → Calls Try.prog 80 #[.agg #[.int .i64 life, .int .i64 era, .int .i64 seq, .int .i64 k, .int .i64 N, .slice A' d cp]] V fun e w' => ERes V.heap.size w' e (encF (piece life era seq l N k)) ∧ Below V.heap.size V w') := Lib.hid fun A' d cp V hA' hd hV => by
        have hA2 : A' = Option.map (fun x => x.add (80 * k)) A := by
          rcases hA' with h | ⟨h, h0⟩
          · exact h
          · rw [h, h0]; cases A <;> simp [Addr.add]
        subst hA2
        have h := fenc7_any (piece life era seq l N k) (Option.map (fun x => x.add (80 * k)) A) cp V (slSegO (HSW.out.below hV) _ _) (seg_oct ho _ _)
        have h2 : (piece life era seq l N k).val (Option.map (fun x => x.add (80 * k)) A) cp = .agg #[.int .i64 life, .int .i64 era, .int .i64 seq, .int .i64 k, .int .i64 N, .slice (Option.map (fun x => x.add (80 * k)) A) (seg l (80 * k) 80).length cp] := by
          unfold Fr.val piece
          rfl
        rw [h2] at h
        rw [hd]
        exact h
      have hpk := (piece_ok (life := life) (era := era) (seq := seq) (b := l) hlt hb).trans hok
      have HEF : Hid (encF (piece life era seq l N k) = (sealed (piece life era seq l N k).body, 0)) := Lib.hid (if_pos hpk)
      clear hsg hpk
      have hks : IntKind.i64.wrap ((k : Int) + 1) = (k : Int) + 1 := IntWalk.i64_in _ (by omega)
      skip
      all_goals go_wp2_with fail
      all_goals refine (HENC.out _ _ _ _ ?_ (HDL.out _ (by omega)) hB).mono ?_
      all_goals first | exact Or.inl rfl | (refine Or.inr ⟨rfl, ?_⟩; omega) | skip
      all_goals rw [HEF.out]
      all_goals rintro e v2 ⟨⟨A5, c5, rfl, own5⟩, hb2⟩
      all_goals have hB2 := since_step hB hb2
      all_goals have own2 := own_below own2 hb2
      all_goals have hown := hown.below hb2
      all_goals have own5 := own_base own5 hB.size
      all_goals have HCS := Lib.hid (cellsF_succ life era seq l N k)
      all_goals (obtain ⟨R, hR⟩ : ∃ R, sealed (piece life era seq l N k).body = R := ⟨_, rfl⟩)
      all_goals rw [hR] at own5 HCS
      all_goals simp only at own5
      all_goals rw [hR]
      all_goals clear hR HENC HDL HEF hb2
      all_goals (go_wp2_with (first
        | (at_builtin; refine wpList_app rfl (.tmp 54) (.tmp 56) rfl ERS rfl rfl (own2.alloc _) (m := 1) (news := [.slice A5 R.length c5]) rfl (Sl.new_ _ _ _) (fun u hu => by simp only [List.mem_cons, List.not_mem_nil, or_false] at hu; subst hu; rfl) (by unfold maxLen; omega) (by omega) (by rw [World.size_alloc]; exact Nat.le_succ_of_le hB2.size) ?_; intro A6 c6 x6 own6 hg6 hb6)
        | fail))
      all_goals have hown6 : OwnRows w.heap.size x6 (S2 ++ [⟨A5, c5, R⟩]) := (fun s hs => by
        rcases List.mem_append.1 hs with hs | hs
        · exact own_kept8 ((hown s hs).alloc _) (own2.alloc _) hg6
        · obtain rfl : s = ⟨A5, c5, R⟩ := by simpa using hs
          exact own_kept8 (own5.alloc _) (own2.alloc _) hg6)
      all_goals have hB6 := (hB2.alloc hB2.size (.cells #[.slice A5 R.length c5] 36)).trans hb6
      all_goals skip
      all_goals go_roundw
      all_goals first
        | (exact ⟨k + 1, A6, c6, S2 ++ [⟨A5, c5, R⟩], by omega, by rw [List.length_append, HSK.out]; rfl, rfl, by rw [rc_append, List.length_append, HSK.out]; exact own6, by rw [List.map_append, HMAP.out, HCS.out]; rfl, hown6, hB6⟩)
        | (simp [intOf]; omega)
        | skip
    · obtain rfl : k = N := by omega
      have hki : ¬ (k : Int) < (k : Int) := by have := HN1.out; omega
      go_wp2_with fail
      go_ret2
      exact ⟨⟨A2, c2, S2, by rw [HSK.out]; rfl, by rw [HSK.out]; exact own2, HMAP.out, hown⟩, hB⟩
theorem fcut7_one (life era seq : Int) (A : Option Addr) (c N : Nat) (l : List Nat) (w : World) (hlc : l.length ≤ c) (hcm : c ≤ maxLen) (hs : Sl w A (by8 l)) (ho : Oct l) (hN : partsN l.length = N) (hb : N ≤ 255) (h1 : N = 1) (hok : (piece life era seq l N 0).ok = true) :
    Calls Try.prog 54 #[.int .i64 life, .int .i64 era, .int .i64 seq, .slice A l.length c] w fun e w' => CRes w.heap.size w' e (cellsF life era seq l N N, 0) ∧ Below w.heap.size w w' := by
  obtain ⟨n, hn⟩ : ∃ n, l.length = n := ⟨_, rfl⟩
  have HL := Lib.hid hn
  rw [hn] at hlc hN ⊢
  have hNn : ∀ k, k < N → (80 * k < n ∨ k = 0 ∧ n = 0) ∧ (k + 1 < N → 80 * (k + 1) ≤ n) ∧ n ≤ 80 * N := by unfold partsN at hN; intro k hk; omega
  have HNN := Lib.hid hNn
  obtain ⟨q, hq⟩ : ∃ q : Int, ((n : Int) + 80 - 1) / 80 = q := ⟨_, rfl⟩
  have hq1 : ¬ (1 : Int) < q := by unfold partsN at hN; omega
  have hq2 : ¬ (255 : Int) < q := by omega
  
  have HSW := Lib.hid hs
  have HN1 := Lib.hid h1
  have HBB := Lib.hid hb
  clear hN hn hNn hs h1
  go_enter Try.func54, Try.ntmps54
  go_wp2_with (first
    | (at_make; refine wpList_mk rfl (.const (.int .i64 0)) (.tmp 24) rfl ERS N rfl rfl (by have := HN1.out; omega) (by have := HN1.out; omega) (by unfold maxLen; have := HN1.out; omega) (Nat.le_refl _) ?_; intro w1 own1 hb1)
    | fail)
  go_loopw [11, 27] (fun bv iv wr => ∃ (k : Nat) (A2 : Option Addr) (c2 : Nat) (S2 : List (RowS Nat)), k ≤ N ∧ bv = .slice A2 S2.length c2 ∧ iv = .int .i64 k ∧ wr.ownsRow w.heap.size 36 1 (.slice A2 S2.length c2) S2.length (rc RowS.cells S2) ∧ S2.map RowS.l = cellsF life era seq l N k ∧ OwnRows w.heap.size wr S2 ∧ Below w.heap.size w wr) (fun _ iv _ => N - (intOf iv).toNat)
  case atStart => exact ⟨0, _, _, [], Nat.zero_le _, rfl, rfl, own1, rfl, (fun s hs => by cases hs), hb1⟩
  case round =>
    obtain ⟨k, A2, c2, S2, hk, rfl, rfl, own2, hmap, hown, hB⟩ := hrel
    have HMAP := Lib.hid hmap
    have hSk : S2.length = k := by have := congrArg List.length hmap; rw [List.length_map] at this; rw [this]; simp [cellsF]
    clear hmap own1 hb1
    rw [hSk] at own2 ⊢
    have HSK := Lib.hid hSk
    clear hSk
    by_cases hlt : k < N
    · have hki : (k : Int) < 1 := by have := HN1.out; omega
      obtain ⟨f1, f2, f3⟩ := HNN.out k hlt
      have hb := HBB.out
      have hg1 : (0 : Int) ≤ (k : Int) * 80 := by omega
      have hg2 : (k : Int) * 80 ≤ (n : Int) := by omega
      have hg3 : (n : Int) ≤ (c : Int) := by omega
      have hg4 : (0 : Int) ≤ (n : Int) := by omega
      have htn : ((k : Int) * 80).toNat = 80 * k := by omega
      have hsg : (seg l (80 * k) 80).length = min n (80 * (k + 1)) - 80 * k := by unfold seg; rw [List.length_take, List.length_drop, HL.out]; omega
      have HDL : Hid (∀ d, d = min n (80 * (k + 1)) - 80 * k → d = (seg l (80 * k) 80).length) := Lib.hid fun d hd => by rw [hsg, hd]
      have HENC : Hid (∀ (A' : Option Addr) (d cp : Nat) (V : World), (A' = Option.map (fun x => x.add (80 * k)) A ∨ A' = A ∧ k = 0) → d = (seg l (80 * k) 80).length → Below w.heap.size w V → Calls Try.prog 80 #[.agg #[.int .i64 life, .int .i64 era, .int .i64 seq, .int .i64 k, .int .i64 1, .slice A' d cp]] V fun e w' => ERes V.heap.size w' e (encF (piece life era seq l N k)) ∧ Below V.heap.size V w') := Lib.hid fun A' d cp V hA' hd hV => by
        have hA2 : A' = Option.map (fun x => x.add (80 * k)) A := by
          rcases hA' with h | ⟨h, h0⟩
          · exact h
          · rw [h, h0]; cases A <;> simp [Addr.add]
        subst hA2
        have h := fenc7_any (piece life era seq l N k) (Option.map (fun x => x.add (80 * k)) A) cp V (slSegO (HSW.out.below hV) _ _) (seg_oct ho _ _)
        have h2 : (piece life era seq l N k).val (Option.map (fun x => x.add (80 * k)) A) cp = .agg #[.int .i64 life, .int .i64 era, .int .i64 seq, .int .i64 k, .int .i64 1, .slice (Option.map (fun x => x.add (80 * k)) A) (seg l (80 * k) 80).length cp] := by
          unfold Fr.val piece
          simp only; rw [show ((N : Nat) : Int) = 1 by have := HN1.out; omega]
        rw [h2] at h
        rw [hd]
        exact h
      have hpk := (piece_ok (life := life) (era := era) (seq := seq) (b := l) hlt hb).trans hok
      have HEF : Hid (encF (piece life era seq l N k) = (sealed (piece life era seq l N k).body, 0)) := Lib.hid (if_pos hpk)
      clear hsg hpk
      have hks : IntKind.i64.wrap ((k : Int) + 1) = (k : Int) + 1 := IntWalk.i64_in _ (by omega)
      by_cases hck : c = 80 * k
      all_goals go_wp2_with fail
      all_goals refine (HENC.out _ _ _ _ ?_ (HDL.out _ (by omega)) hB).mono ?_
      all_goals first | exact Or.inl rfl | (refine Or.inr ⟨rfl, ?_⟩; omega) | skip
      all_goals rw [HEF.out]
      all_goals rintro e v2 ⟨⟨A5, c5, rfl, own5⟩, hb2⟩
      all_goals have hB2 := since_step hB hb2
      all_goals have own2 := own_below own2 hb2
      all_goals have hown := hown.below hb2
      all_goals have own5 := own_base own5 hB.size
      all_goals have HCS := Lib.hid (cellsF_succ life era seq l N k)
      all_goals (obtain ⟨R, hR⟩ : ∃ R, sealed (piece life era seq l N k).body = R := ⟨_, rfl⟩)
      all_goals rw [hR] at own5 HCS
      all_goals simp only at own5
      all_goals rw [hR]
      all_goals clear hR HENC HDL HEF hb2
      all_goals (go_wp2_with (first
        | (at_builtin; refine wpList_app rfl (.tmp 54) (.tmp 56) rfl ERS rfl rfl (own2.alloc _) (m := 1) (news := [.slice A5 R.length c5]) rfl (Sl.new_ _ _ _) (fun u hu => by simp only [List.mem_cons, List.not_mem_nil, or_false] at hu; subst hu; rfl) (by unfold maxLen; omega) (by omega) (by rw [World.size_alloc]; exact Nat.le_succ_of_le hB2.size) ?_; intro A6 c6 x6 own6 hg6 hb6)
        | fail))
      all_goals have hown6 : OwnRows w.heap.size x6 (S2 ++ [⟨A5, c5, R⟩]) := (fun s hs => by
        rcases List.mem_append.1 hs with hs | hs
        · exact own_kept8 ((hown s hs).alloc _) (own2.alloc _) hg6
        · obtain rfl : s = ⟨A5, c5, R⟩ := by simpa using hs
          exact own_kept8 (own5.alloc _) (own2.alloc _) hg6)
      all_goals have hB6 := (hB2.alloc hB2.size (.cells #[.slice A5 R.length c5] 36)).trans hb6
      all_goals (try simp only [← hck])
      all_goals go_roundw
      all_goals first
        | (exact ⟨k + 1, A6, c6, S2 ++ [⟨A5, c5, R⟩], by omega, by rw [List.length_append, HSK.out]; rfl, rfl, by rw [rc_append, List.length_append, HSK.out]; exact own6, by rw [List.map_append, HMAP.out, HCS.out]; rfl, hown6, hB6⟩)
        | (simp [intOf]; omega)
        | skip
    · obtain rfl : k = N := by omega
      have hki : ¬ (k : Int) < 1 := by have := HN1.out; omega
      go_wp2_with fail
      go_ret2
      exact ⟨⟨A2, c2, S2, by rw [HSK.out]; rfl, by rw [HSK.out]; exact own2, HMAP.out, hown⟩, hB⟩
theorem fcut7_many_no (life era seq : Int) (A : Option Addr) (c N : Nat) (l : List Nat) (w : World) (hlc : l.length ≤ c) (hcm : c ≤ maxLen) (hs : Sl w A (by8 l)) (ho : Oct l) (hN : partsN l.length = N) (hb : N ≤ 255) (h1 : 1 < N) (hok : (piece life era seq l N 0).ok = false) :
    Calls Try.prog 54 #[.int .i64 life, .int .i64 era, .int .i64 seq, .slice A l.length c] w fun e w' => CRes w.heap.size w' e ([], 2) ∧ Below w.heap.size w w' := by
  obtain ⟨n, hn⟩ : ∃ n, l.length = n := ⟨_, rfl⟩
  have HL := Lib.hid hn
  rw [hn] at hlc hN ⊢
  have hNn : ∀ k, k < N → (80 * k < n ∨ k = 0 ∧ n = 0) ∧ (k + 1 < N → 80 * (k + 1) ≤ n) ∧ n ≤ 80 * N := by unfold partsN at hN; intro k hk; omega
  have HNN := Lib.hid hNn
  have hq : ((n : Int) + 80 - 1) / 80 = (N : Int) := by unfold partsN at hN; omega
  have hq1 : (1 : Int) < (N : Int) := by omega
  have hq2 : ¬ (255 : Int) < (N : Int) := by omega
  have hN0 : (0 : Int) ≤ (N : Int) := by omega
  have HSW := Lib.hid hs
  have HN1 := Lib.hid h1
  have HBB := Lib.hid hb
  clear hN hn hNn hs h1
  go_enter Try.func54, Try.ntmps54
  go_wp2_with (first
    | (at_make; refine wpList_mk rfl (.const (.int .i64 0)) (.tmp 24) rfl ERS N rfl rfl (by have := HN1.out; omega) (by have := HN1.out; omega) (by unfold maxLen; have := HN1.out; omega) (Nat.le_refl _) ?_; intro w1 own1 hb1)
    | fail)
  go_loopw [11, 27] (fun bv iv wr => ∃ (k : Nat) (A2 : Option Addr) (c2 : Nat) (S2 : List (RowS Nat)), k ≤ N ∧ bv = .slice A2 S2.length c2 ∧ iv = .int .i64 k ∧ wr.ownsRow w.heap.size 36 1 (.slice A2 S2.length c2) S2.length (rc RowS.cells S2) ∧ S2.map RowS.l = cellsF life era seq l N k ∧ OwnRows w.heap.size wr S2 ∧ Below w.heap.size w wr ∧ k = 0) (fun _ iv _ => N - (intOf iv).toNat)
  case atStart => exact ⟨0, _, _, [], Nat.zero_le _, rfl, rfl, own1, rfl, (fun s hs => by cases hs), hb1, rfl⟩
  case round =>
    obtain ⟨k, A2, c2, S2, hk, rfl, rfl, own2, hmap, hown, hB, hk0⟩ := hrel
    have HMAP := Lib.hid hmap
    have hSk : S2.length = k := by have := congrArg List.length hmap; rw [List.length_map] at this; rw [this]; simp [cellsF]
    clear hmap own1 hb1
    rw [hSk] at own2 ⊢
    have HSK := Lib.hid hSk
    clear hSk
    by_cases hlt : k < N
    · have hki : (k : Int) < (N : Int) := by have := HN1.out; omega
      obtain ⟨f1, f2, f3⟩ := HNN.out k hlt
      have hb := HBB.out
      have hg1 : (0 : Int) ≤ (k : Int) * 80 := by omega
      have hg2 : (k : Int) * 80 ≤ (n : Int) := by omega
      have hg3 : (n : Int) ≤ (c : Int) := by omega
      have hg4 : (0 : Int) ≤ (n : Int) := by omega
      have htn : ((k : Int) * 80).toNat = 80 * k := by omega
      have hsg : (seg l (80 * k) 80).length = min n (80 * (k + 1)) - 80 * k := by unfold seg; rw [List.length_take, List.length_drop, HL.out]; omega
      have HDL : Hid (∀ d, d = min n (80 * (k + 1)) - 80 * k → d = (seg l (80 * k) 80).length) := Lib.hid fun d hd => by rw [hsg, hd]
      have HENC : Hid (∀ (A' : Option Addr) (d cp : Nat) (V : World), (A' = Option.map (fun x => x.add (80 * k)) A ∨ A' = A ∧ k = 0) → d = (seg l (80 * k) 80).length → Below w.heap.size w V → Calls Try.prog 80 #[.agg #[.int .i64 life, .int .i64 era, .int .i64 seq, .int .i64 k, .int .i64 N, .slice A' d cp]] V fun e w' => ERes V.heap.size w' e (encF (piece life era seq l N k)) ∧ Below V.heap.size V w') := Lib.hid fun A' d cp V hA' hd hV => by
        have hA2 : A' = Option.map (fun x => x.add (80 * k)) A := by
          rcases hA' with h | ⟨h, h0⟩
          · exact h
          · rw [h, h0]; cases A <;> simp [Addr.add]
        subst hA2
        have h := fenc7_any (piece life era seq l N k) (Option.map (fun x => x.add (80 * k)) A) cp V (slSegO (HSW.out.below hV) _ _) (seg_oct ho _ _)
        have h2 : (piece life era seq l N k).val (Option.map (fun x => x.add (80 * k)) A) cp = .agg #[.int .i64 life, .int .i64 era, .int .i64 seq, .int .i64 k, .int .i64 N, .slice (Option.map (fun x => x.add (80 * k)) A) (seg l (80 * k) 80).length cp] := by
          unfold Fr.val piece
          rfl
        rw [h2] at h
        rw [hd]
        exact h
      have hpk : (piece life era seq l N k).ok = false := by rw [hk0]; exact hok
      have HEF : Hid (encF (piece life era seq l N k) = ([], 2)) := Lib.hid (if_neg (by rw [hpk]; decide))
      clear hsg hpk hk0
      have hks : IntKind.i64.wrap ((k : Int) + 1) = (k : Int) + 1 := IntWalk.i64_in _ (by omega)
      skip
      all_goals go_wp2_with fail
      all_goals refine (HENC.out _ _ _ _ ?_ (HDL.out _ (by omega)) hB).mono ?_
      all_goals first | exact Or.inl rfl | (refine Or.inr ⟨rfl, ?_⟩; omega) | skip
      all_goals rw [HEF.out]
      all_goals rintro e v2 ⟨⟨A5, c5, rfl, own5⟩, hb2⟩
      all_goals have hB2 := since_step hB hb2
      all_goals go_wp2_with fail
      all_goals go_ret2
      all_goals exact ⟨CRes.no _ _ _, hB2⟩
    · have := HN1.out; omega
theorem fcut7_one_no (life era seq : Int) (A : Option Addr) (c N : Nat) (l : List Nat) (w : World) (hlc : l.length ≤ c) (hcm : c ≤ maxLen) (hs : Sl w A (by8 l)) (ho : Oct l) (hN : partsN l.length = N) (hb : N ≤ 255) (h1 : N = 1) (hok : (piece life era seq l N 0).ok = false) :
    Calls Try.prog 54 #[.int .i64 life, .int .i64 era, .int .i64 seq, .slice A l.length c] w fun e w' => CRes w.heap.size w' e ([], 2) ∧ Below w.heap.size w w' := by
  obtain ⟨n, hn⟩ : ∃ n, l.length = n := ⟨_, rfl⟩
  have HL := Lib.hid hn
  rw [hn] at hlc hN ⊢
  have hNn : ∀ k, k < N → (80 * k < n ∨ k = 0 ∧ n = 0) ∧ (k + 1 < N → 80 * (k + 1) ≤ n) ∧ n ≤ 80 * N := by unfold partsN at hN; intro k hk; omega
  have HNN := Lib.hid hNn
  obtain ⟨q, hq⟩ : ∃ q : Int, ((n : Int) + 80 - 1) / 80 = q := ⟨_, rfl⟩
  have hq1 : ¬ (1 : Int) < q := by unfold partsN at hN; omega
  have hq2 : ¬ (255 : Int) < q := by omega
  
  have HSW := Lib.hid hs
  have HN1 := Lib.hid h1
  have HBB := Lib.hid hb
  clear hN hn hNn hs h1
  go_enter Try.func54, Try.ntmps54
  go_wp2_with (first
    | (at_make; refine wpList_mk rfl (.const (.int .i64 0)) (.tmp 24) rfl ERS N rfl rfl (by have := HN1.out; omega) (by have := HN1.out; omega) (by unfold maxLen; have := HN1.out; omega) (Nat.le_refl _) ?_; intro w1 own1 hb1)
    | fail)
  go_loopw [11, 27] (fun bv iv wr => ∃ (k : Nat) (A2 : Option Addr) (c2 : Nat) (S2 : List (RowS Nat)), k ≤ N ∧ bv = .slice A2 S2.length c2 ∧ iv = .int .i64 k ∧ wr.ownsRow w.heap.size 36 1 (.slice A2 S2.length c2) S2.length (rc RowS.cells S2) ∧ S2.map RowS.l = cellsF life era seq l N k ∧ OwnRows w.heap.size wr S2 ∧ Below w.heap.size w wr ∧ k = 0) (fun _ iv _ => N - (intOf iv).toNat)
  case atStart => exact ⟨0, _, _, [], Nat.zero_le _, rfl, rfl, own1, rfl, (fun s hs => by cases hs), hb1, rfl⟩
  case round =>
    obtain ⟨k, A2, c2, S2, hk, rfl, rfl, own2, hmap, hown, hB, hk0⟩ := hrel
    have HMAP := Lib.hid hmap
    have hSk : S2.length = k := by have := congrArg List.length hmap; rw [List.length_map] at this; rw [this]; simp [cellsF]
    clear hmap own1 hb1
    rw [hSk] at own2 ⊢
    have HSK := Lib.hid hSk
    clear hSk
    by_cases hlt : k < N
    · have hki : (k : Int) < 1 := by have := HN1.out; omega
      obtain ⟨f1, f2, f3⟩ := HNN.out k hlt
      have hb := HBB.out
      have hg1 : (0 : Int) ≤ (k : Int) * 80 := by omega
      have hg2 : (k : Int) * 80 ≤ (n : Int) := by omega
      have hg3 : (n : Int) ≤ (c : Int) := by omega
      have hg4 : (0 : Int) ≤ (n : Int) := by omega
      have htn : ((k : Int) * 80).toNat = 80 * k := by omega
      have hsg : (seg l (80 * k) 80).length = min n (80 * (k + 1)) - 80 * k := by unfold seg; rw [List.length_take, List.length_drop, HL.out]; omega
      have HDL : Hid (∀ d, d = min n (80 * (k + 1)) - 80 * k → d = (seg l (80 * k) 80).length) := Lib.hid fun d hd => by rw [hsg, hd]
      have HENC : Hid (∀ (A' : Option Addr) (d cp : Nat) (V : World), (A' = Option.map (fun x => x.add (80 * k)) A ∨ A' = A ∧ k = 0) → d = (seg l (80 * k) 80).length → Below w.heap.size w V → Calls Try.prog 80 #[.agg #[.int .i64 life, .int .i64 era, .int .i64 seq, .int .i64 k, .int .i64 1, .slice A' d cp]] V fun e w' => ERes V.heap.size w' e (encF (piece life era seq l N k)) ∧ Below V.heap.size V w') := Lib.hid fun A' d cp V hA' hd hV => by
        have hA2 : A' = Option.map (fun x => x.add (80 * k)) A := by
          rcases hA' with h | ⟨h, h0⟩
          · exact h
          · rw [h, h0]; cases A <;> simp [Addr.add]
        subst hA2
        have h := fenc7_any (piece life era seq l N k) (Option.map (fun x => x.add (80 * k)) A) cp V (slSegO (HSW.out.below hV) _ _) (seg_oct ho _ _)
        have h2 : (piece life era seq l N k).val (Option.map (fun x => x.add (80 * k)) A) cp = .agg #[.int .i64 life, .int .i64 era, .int .i64 seq, .int .i64 k, .int .i64 1, .slice (Option.map (fun x => x.add (80 * k)) A) (seg l (80 * k) 80).length cp] := by
          unfold Fr.val piece
          simp only; rw [show ((N : Nat) : Int) = 1 by have := HN1.out; omega]
        rw [h2] at h
        rw [hd]
        exact h
      have hpk : (piece life era seq l N k).ok = false := by rw [hk0]; exact hok
      have HEF : Hid (encF (piece life era seq l N k) = ([], 2)) := Lib.hid (if_neg (by rw [hpk]; decide))
      clear hsg hpk hk0
      have hks : IntKind.i64.wrap ((k : Int) + 1) = (k : Int) + 1 := IntWalk.i64_in _ (by omega)
      by_cases hck : c = 80 * k
      all_goals go_wp2_with fail
      all_goals refine (HENC.out _ _ _ _ ?_ (HDL.out _ (by omega)) hB).mono ?_
      all_goals first | exact Or.inl rfl | (refine Or.inr ⟨rfl, ?_⟩; omega) | skip
      all_goals rw [HEF.out]
      all_goals rintro e v2 ⟨⟨A5, c5, rfl, own5⟩, hb2⟩
      all_goals have hB2 := since_step hB hb2
      all_goals go_wp2_with fail
      all_goals go_ret2
      all_goals exact ⟨CRes.no _ _ _, hB2⟩
    · have := HN1.out; omega
theorem fcut7_any (life era seq : Int) (A : Option Addr) (c : Nat) (l : List Nat) (w : World) (hlc : l.length ≤ c) (hcm : c ≤ maxLen) (hl : l.length ≤ 1000000) (hs : Sl w A (by8 l)) (ho : Oct l) :
    Calls Try.prog 54 #[.int .i64 life, .int .i64 era, .int .i64 seq, .slice A l.length c] w fun e w' => CRes w.heap.size w' e (cutF life era seq l) ∧ Below w.heap.size w w' := by
  obtain ⟨N, hN⟩ : ∃ N, partsN l.length = N := ⟨_, rfl⟩
  have hp := partsN_pos l.length
  by_cases hb : 255 < N
  · have hc : cutF life era seq l = ([], 6) := if_pos (by rw [hN]; exact hb)
    rw [hc]
    exact fcut7_big life era seq A l.length c N w hl hN hb
  · have hb2 : ¬ 255 < partsN l.length := by rw [hN]; exact hb
    cases hok : (piece life era seq l N 0).ok with
    | true =>
      have hc : cutF life era seq l = (cellsF life era seq l N N, 0) := by
        unfold cutF; rw [if_neg hb2, hN, if_pos hok]
      rw [hc]
      rcases (by omega : N = 1 ∨ 1 < N) with h1 | h1
      · exact fcut7_one life era seq A c N l w hlc hcm hs ho hN (by omega) h1 hok
      · exact fcut7_many life era seq A c N l w hlc hcm hs ho hN (by omega) h1 hok
    | false =>
      have hc : cutF life era seq l = ([], 2) := by
        unfold cutF; rw [if_neg hb2, hN, if_neg (by rw [hok]; decide)]
      rw [hc]
      rcases (by omega : N = 1 ∨ 1 < N) with h1 | h1
      · exact fcut7_one_no life era seq A c N l w hlc hcm hs ho hN (by omega) h1 hok
      · exact fcut7_many_no life era seq A c N l w hlc hcm hs ho hN (by omega) h1 hok
end
end Go.Proofs.Ytiggcpfmmgmncaa
