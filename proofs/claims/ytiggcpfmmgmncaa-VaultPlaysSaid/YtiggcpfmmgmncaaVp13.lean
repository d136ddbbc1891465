import Derived.Test.YtiggcpfmmgmncaaVp12
import Derived.Deep.RegionLaw
import Derived.Lib.SliceRun
import Derived.Test.YtiggcpfmmgmncaaVp01
import Derived.Deep.DeepCutAuto
import Derived.Deep.RegionHeld3
import Derived.Test.YtiggcpfmmgmncaaVp03
import Derived.Test.YtiggcpfmmgmncaaVp10
set_option maxHeartbeats 16000000
set_option maxRecDepth 100000
set_option linter.unusedVariables false
set_option linter.unusedSimpArgs false
namespace Go.Proofs.Ytiggcpfmmgmncaa
open Go.ChangeShapes Go.WideShapes Go.ChangeAt Go.RowKit
section
def Rows8 (w : World) (A : Option Addr) (R : List (List Nat)) : Prop := ∃ S : List (RowS Nat), S.map RowS.l = R ∧ Sl w A (rc RowS.cells S) ∧ ∀ s ∈ S, Sl w s.A (by8 s.l) ∧ s.l.length ≤ s.c ∧ s.c ≤ maxLen
theorem Rows8.below {w w' : World} {A : Option Addr} {R : List (List Nat)} (h : Rows8 w A R) (hb : Below w.heap.size w w') : Rows8 w' A R := by
  obtain ⟨S, h1, h2, h3⟩ := h
  exact ⟨S, h1, h2.below hb, fun s hs => ⟨(h3 s hs).1.below hb, (h3 s hs).2⟩⟩
theorem Rows8.at_ {w : World} {A : Option Addr} {R : List (List Nat)} (h : Rows8 w A R) {k : Nat} (hk : k < R.length) : ∃ b o A' d, A = some ⟨b, o, none⟩ ∧ b < w.heap.size ∧ w.cell? ⟨b, o + k, none⟩ = some (.slice A' R[k].length d) ∧ Sl w A' (by8 R[k]) ∧ R[k].length ≤ d ∧ d ≤ maxLen := by
  obtain ⟨S, h1, h2, h3⟩ := h
  have hk2 : k < S.length := by have := congrArg List.length h1; rw [List.length_map] at this; omega
  obtain ⟨b, o, rfl, hb, hc⟩ := h2.rowS hk2
  have e : R[k] = S[k].l := by subst h1; simp
  rw [e]
  obtain ⟨q1, q2, q3⟩ := h3 _ (List.getElem_mem hk2)
  exact ⟨b, o, _, _, rfl, hb, hc, q1, q2, q3⟩
theorem CRes.rows {B : Nat} {w' : World} {e : Ending} {R : List (List Nat)} {z : Int} (h : CRes B w' e (R, z)) : ∃ A' c', e = .returned (.tuple #[.slice A' R.length c', .int .i64 z]) ∧ Rows8 w' A' R := by
  obtain ⟨A', c', S, rfl, own, hm, hr⟩ := h
  simp only at hm
  have hl : S.length = R.length := by have := congrArg List.length hm; rw [List.length_map] at this; exact this
  refine ⟨A', c', by rw [hl], S, hm, Sl.of_own own, fun s hs => ⟨Sl.of_own (hr s hs), own_le (hr s hs), own_max (hr s hs)⟩⟩
theorem cutF_len (life era seq : Int) (b : List Nat) : (cutF life era seq b).1.length ≤ 255 := by
  unfold cutF
  split
  · simp
  · split
    · simp only [cellsF, List.length_map, List.length_range]; omega
    · simp
end
section
def piecesF (life era seq : Int) (b : List Nat) (n k : Nat) : List Fr := (List.range k).map (piece life era seq b n)
theorem piecesF_len (life era seq : Int) (b : List Nat) (n k : Nat) : (piecesF life era seq b n k).length = k := by simp [piecesF]
theorem piecesF_data (life era seq : Int) (b : List Nat) (n : Nat) : ∀ k, dataJ (piecesF life era seq b n k) = b.take (80 * k)
  | 0 => by simp [piecesF, dataJ]
  | k + 1 => by
    have ih := piecesF_data life era seq b n k
    unfold piecesF dataJ at *
    rw [List.range_succ, List.map_append, List.map_append, List.flatten_append, ih, show 80 * (k + 1) = 80 * k + 80 by omega, List.take_add]
    simp [piece, seg]
theorem join_pieces {life era seq : Int} {b : List Nat} {n : Nat} (hn : partsN b.length = n) (hb : n ≤ 255) (hok : (piece life era seq b n 0).ok = true) : joinF (piecesF life era seq b n n) = (b, true) := by
  have hp : 0 < n := by rw [← hn]; exact partsN_pos _
  rw [joinF_good (f0 := piece life era seq b n 0), piecesF_data, List.take_of_length_le]
  · unfold partsN at hn; omega
  · simp [piecesF, hp]
  · rw [piecesF_len]; rfl
  · intro j f hj
    rw [piecesF_len]
    have hjn : j < n := by
      have := (List.getElem?_eq_some_iff.1 hj).1
      rwa [piecesF_len] at this
    have hf : f = piece life era seq b n j := by
      simp [piecesF, hjn] at hj
      exact hj.symm
    subst hf
    unfold goodJ
    rw [piece_ok hjn hb, hok, Bool.true_and]
    have e1 : decide ((piece life era seq b n j).life = (piece life era seq b n 0).life ∧ (piece life era seq b n j).era = (piece life era seq b n 0).era ∧ (piece life era seq b n j).seq = (piece life era seq b n 0).seq ∧ (piece life era seq b n j).parts = (piece life era seq b n 0).parts) = true := decide_eq_true ⟨rfl, rfl, rfl, rfl⟩
    have e2 : decide ((piece life era seq b n j).part = (j : Int)) = true := decide_eq_true rfl
    rw [e1, e2, Bool.true_and, Bool.true_and, Bool.not_eq_true', Bool.and_eq_false_iff]
    by_cases h : j + 1 < n
    · right
      have : (seg b (80 * j) 80).length = 80 := by
        unfold seg; rw [List.length_take, List.length_drop]
        unfold partsN at hn
        omega
      simp [piece, this]
    · left
      exact decide_eq_false h
theorem cutF_ways (life era seq : Int) (b : List Nat) : (∃ n, partsN b.length = n ∧ n ≤ 255 ∧ (piece life era seq b n 0).ok = true ∧ cutF life era seq b = ((piecesF life era seq b n n).map (fun f => sealed f.body), 0)) ∨ ∃ z : Int, (z = 6 ∨ z = 2) ∧ cutF life era seq b = ([], z) := by
  unfold cutF
  split
  · exact .inr ⟨6, .inl rfl, rfl⟩
  · split
    · refine .inl ⟨_, rfl, by omega, by assumption, ?_⟩
      unfold cellsF piecesF
      rw [List.map_map]
      rfl
    · exact .inr ⟨2, .inr rfl, rfl⟩
theorem EFR : Elem Try.prog 155 130 6 64 := Elem.mk' (z := .agg #[.int .i64 0, .int .i64 0, .int .i64 0, .int .i64 0, .int .i64 0, .slice none 0 0]) (by kernel_rfl) (by kernel_rfl) (by decide) (by decide)
theorem own_keptF {w w' : World} {B B' : Nat} {v v' : Value} {n n' : Nat} {xs ys : List Value} (h : w.ownsRow B 5 1 v n xs) (ho : w.ownsRow B' 130 6 v' n' ys) (hg : w.grownBy w' v'.ownBlock) : w'.ownsRow B 5 1 v n xs := by
  refine h.kept hg ?_
  rcases h.2 with ⟨rfl, _⟩ | ⟨g, cap, cur, rfl, _, hh, _⟩
  · exact .inl rfl
  · right
    rcases ho.2 with ⟨rfl, _⟩ | ⟨g', cap', cur', rfl, _, hh', _⟩
    · simp [Value.ownBlock]
    · simp only [Value.ownBlock, ne_eq, Option.some.injEq]
      intro e
      subst e
      rw [hh] at hh'
      injection hh' with hh'
      injection hh' with _ e
      exact absurd e (by decide)
def OwnF (B : Nat) (w : World) (H : List Fh) : Prop := ∀ h ∈ H, w.ownsRow B 5 1 (.slice h.A h.f.data.length h.c) h.f.data.length (by8 h.f.data)
theorem OwnF.below {B : Nat} {w w' : World} {H : List Fh} (h : OwnF B w H) (hb : Below w.heap.size w w') : OwnF B w' H := fun s hs => own_below (h s hs) hb
end
section
structure Nt where
  (n : Int)
deriving DecidableEq
def Nt.cells (g : Nt) : List Value := [.int .i64 g.n]
def Nt.val (g : Nt) : Value := .int .i64 g.n
def Nt.zero : Nt := ⟨0⟩
theorem Nt.len (g : Nt) : g.cells.length = 1 := rfl
theorem Nt.one (g : Nt) : ∀ u ∈ g.cells, u.oneCell' = true := by
  intro u hu
  simp only [Nt.cells, List.mem_cons, List.not_mem_nil, or_false] at hu
  subst hu; rfl
def Nt.at (g : Nt) (w : World) (b o : Nat) : Prop :=
  w.cell? ⟨b, o, none⟩ = some (.int .i64 g.n) ∧ True
theorem Nt.at_of {w : World} {b o : Nat} {g : Nt} (h : ∀ j u, g.cells[j]? = some u → w.cell? ⟨b, o + j, none⟩ = some u) : g.at w b o :=
  ⟨h 0 _ rfl, trivial⟩
theorem Nt.at_keep {w w' : World} {b o : Nat} {g : Nt} (h : g.at w b o) (k : ∀ i, w'.cell? ⟨b, i, none⟩ = w.cell? ⟨b, i, none⟩) : g.at w' b o := by
  unfold Nt.at at *
  simp only [k]
  exact h
theorem Sl.nt {w : World} {A : Option Addr} {l : List Nt} (h : Sl w A (rc Nt.cells l)) {k : Nat} (hk : k < l.length) : ∃ b o, A = some ⟨b, o, none⟩ ∧ b < w.heap.size ∧ l[k].at w b (o + k) := by
  obtain ⟨b, o, hA, hb, hc⟩ := Sl.elem (m := 1) Nt.len (by decide) h hk
  exact ⟨b, o, hA, hb, Nt.at_of (by simpa only [Nat.mul_one] using hc)⟩
theorem ENt : Elem Try.prog 37 3 1 8 := Elem.mk' (z := .int .i64 0) (by kernel_rfl) (by kernel_rfl) (by decide) (by decide)
def Nt.Tells (F : Nat) (caps : Array Value) (p : Nt → Bool) (B : Nat) (w : World) : Prop :=
  ∀ (g : Nt) (W : World), Below B w W → Calls Try.prog F (#[g.val] ++ caps) W fun e w' => e = .returned (.bool (p g)) ∧ Below W.heap.size W w'
theorem Nt.Tells.below {F : Nat} {caps : Array Value} {p : Nt → Bool} {B : Nat} {w w1 : World} (h : Nt.Tells F caps p B w) (hb : Below B w w1) {C : Nat} (hC : B ≤ C) : Nt.Tells F caps p C w1 :=
  fun g W hW => h g W (hb.trans (hW.mono hC))
theorem clone_nt (A : Option Addr) (cap : Nat) (l : List Nt) (w : World) (hl : l.length ≤ 1000000) (hs : Sl w A (rc Nt.cells l)) :
    Calls Try.prog 62 #[.slice A l.length cap] w fun e w' => (∃ A' c', e = .returned (.slice A' l.length c') ∧ w'.ownsRow w.heap.size 3 1 (.slice A' l.length c') l.length (rc Nt.cells l)) ∧ Below w.heap.size w w' := by
  cases A with
  | none =>
    have hn : l = [] := by
      cases l with
      | nil => rfl
      | cons g m => obtain ⟨b, o, e, _⟩ := hs.nt (k := 0) (by simp); cases e
    subst hn
    have hnil := fun w : World => Go.Lib.run_eql_slice_nil (P := Try.prog) w 37 3 none 0 cap 0 0 ENt.und
    go_enter Try.func62, Try.ntmps62
    go_wp2_with fail
    go_ret
    exact ⟨⟨none, 0, rfl, own_nil _ _ _⟩, Below.refl _ _⟩
  | some ad =>
    have hnil := fun w : World => Go.Lib.run_eql_slice_nil (P := Try.prog) w 37 3 (some ad) l.length cap 0 0 ENt.und
    go_enter Try.func62, Try.ntmps62
    go_wp2_with (first
      | (at_builtin; refine wpList_app rfl (.tmp 5) (.tmp 6) rfl ENt rfl rfl (World.ownsRow_made (w := w) #[] 0 (Nat.le_refl _) (Nat.zero_le _) rfl) (rc_length Nt.len l) (hs.alloc _) (rc_one Nt.one l) (by unfold maxLen; omega) (by omega) (by simp) ?_; intro A2 c2 w2 hown2 hg2 hb2; simp only [Nat.zero_add, List.nil_append] at hown2)
      | fail)
    refine bodyPost_ret (results_tmp rfl _ _ _) rfl ⟨⟨A2, c2, by simp, by simpa using hown2⟩, ?_⟩
    exact Below.trans ((Below.refl _ _).alloc (Nat.le_refl _) _) hb2
end
section
def Nt.Tells2 (F : Nat) (caps : Array Value) (ah : Nt → Nt → Bool) (B : Nat) (w : World) : Prop :=
  ∀ (a b : Nt) (W : World), Below B w W → Calls Try.prog F (#[a.val, b.val] ++ caps) W fun e w' => e = .returned (.bool (ah a b)) ∧ Below W.heap.size W w'
theorem Nt.Tells2.below {F : Nat} {caps : Array Value} {ah : Nt → Nt → Bool} {B : Nat} {w w1 : World} (h : Nt.Tells2 F caps ah B w) (hb : Below B w w1) {C : Nat} (hC : B ≤ C) : Nt.Tells2 F caps ah C w1 :=
  fun a b W hW => h a b W (hb.trans (hW.mono hC))
structure Nt.Bx (w : World) (b : Nat) (g : Nt) : Prop where
  lt : b < w.heap.size
  at_ : g.at w b 0
  hp : w.heap[b]? = some (.cells g.cells.toArray 3 (0, 0))
theorem Nt.Bx.new (w : World) (g : Nt) : Nt.Bx (w.alloc (.cells g.cells.toArray 3)) w.heap.size g := by
  have h := heap_alloc_new w (.cells g.cells.toArray 3 (0, 0))
  refine ⟨by simp, Nt.at_of fun j u hu => ?_, h⟩
  rw [Nat.zero_add, cell_of_row _ _ j g.cells.toArray 3 (0, 0) h]
  simpa using hu
theorem Nt.Bx.below {w w' : World} {b : Nat} {g : Nt} (h : Nt.Bx w b g) (hb : Below w.heap.size w w') : Nt.Bx w' b g :=
  ⟨Nat.lt_of_lt_of_le h.lt hb.size, Nt.at_keep h.at_ fun i => hb.cell (p := ⟨b, i, none⟩) h.lt, (hb.block b h.lt).trans h.hp⟩
theorem Nt.Bx.sl {w : World} {b : Nat} {g : Nt} (h : Nt.Bx w b g) : Sl w (some ⟨b, 0, none⟩) g.cells := by
  intro _
  refine ⟨b, 0, rfl, fun j u hu => ?_⟩
  rw [Nat.zero_add, cell_of_row _ _ j g.cells.toArray 3 (0, 0) h.hp]
  simpa using hu
theorem Nt.Bx.got {w : World} {b : Nat} {g : Nt} (h : Nt.Bx w b g) : w.cell? ⟨b, 0, none⟩ = some (.int .i64 g.n) ∧ True := by
  have := h.at_
  unfold Nt.at at this
  simpa only [Nat.zero_add] using this
end
section
theorem idx_int (A : Option Addr) (cap : Nat) (l : List Nt) (c : Int) (w : World) (hl : l.length ≤ 1000000) (hs : Sl w A (rc Nt.cells l)) :
    Calls Try.prog 96 #[.slice A l.length cap, .int .i64 c] w fun e w' => e = .returned (.int .i64 (atL (fun x => c == x.n) l)) ∧ Below w.heap.size w w' := by
  go_enter Try.func96, Try.ntmps96
  go_wp2
  go_loopw [8] (fun i wr => ∃ k : Nat, k ≤ l.length ∧ i = .int .i64 k ∧ (∀ j, (hj : j < l.length) → j < k → (c == l[j].n) = false) ∧ Below w.heap.size w wr) (fun i _ => l.length - (intOf i).toNat)
  case atStart => exact ⟨0, by omega, rfl, fun j hj h => absurd h (by omega), Below.refl _ _⟩
  case round =>
    obtain ⟨k, hk, rfl, hno, hB⟩ := hrel
    by_cases hlt2 : k < l.length
    · obtain ⟨b, o, rfl, hbw, hg⟩ := hs.nt hlt2
      have hg1 : l[k].at wr b (o + k) := Nt.at_keep (w := w) hg fun i => hB.cell (p := ⟨b, i, none⟩) hbw
      obtain ⟨g0, gT⟩ := hg1
      have HNO := Lib.hid hno
      clear hno
      cases hq : (c == l[k].n) with
      | true =>
        have HQ := Lib.hid hq
        go_wp2
        go_ret
        exact ⟨retI (atL_some hlt2 (fun j hj => HNO.out j (by omega) hj) HQ.out).symm, hB⟩
      | false =>
        have HQ := Lib.hid hq
        go_wp2
        go_roundw
        case rel =>
          refine ⟨k + 1, by omega, by go_num, fun j hj hjk => ?_, hB⟩
          rcases Nat.lt_or_ge j k with h | h
          · exact HNO.out j hj h
          · obtain rfl : j = k := by omega
            exact HQ.out
        case measure => simp [intOf]; omega
    · have HE := Lib.hid (atL_none (p := fun x : Nt => c == x.n) fun j hj => hno j hj (by omega))
      clear hno
      go_wp2
      go_ret
      exact ⟨retI HE.out.symm, hB⟩
def inL (c : Int) (l : List Nt) : Bool := l.any fun x => c == x.n
theorem inL_at (c : Int) (l : List Nt) : inL c l = decide (0 ≤ atL (fun x => c == x.n) l) := by
  rcases atL_cases (fun x : Nt => c == x.n) l with ⟨h0, hno⟩ | ⟨k, hk, h0, hpk, _⟩
  · rw [h0]
    have : inL c l = false := by
      unfold inL
      rw [List.any_eq_false]
      intro x hx
      obtain ⟨j, hj, rfl⟩ := List.getElem_of_mem hx
      rw [hno j hj]; decide
    rw [this]; rfl
  · rw [h0]
    have : inL c l = true := by
      unfold inL
      rw [List.any_eq_true]
      exact ⟨l[k], List.getElem_mem hk, hpk⟩
    rw [this]
    simp
theorem has_int (A : Option Addr) (cap : Nat) (l : List Nt) (c : Int) (w : World) (hl : l.length ≤ 1000000) (hs : Sl w A (rc Nt.cells l)) :
    Calls Try.prog 83 #[.slice A l.length cap, .int .i64 c] w fun e w' => e = .returned (.bool (inL c l)) ∧ Below w.heap.size w w' := by
  have HI := Lib.hid (inL_at c l)
  go_enter Try.func83, Try.ntmps83
  go_wp2_with fail
  refine (idx_int A cap l c _ hl hs).mono ?_
  rintro e w1 ⟨rfl, hb1⟩
  go_wp2_with fail
  go_ret
  exact ⟨retB HI.out.symm, hb1⟩
end
section
structure Chg2 (b g : Nat) (w w' : World) : Prop where
  os : w'.os = w.os
  tape : w'.tape = w.tape
  output : w'.output = w.output
  size : w.heap.size ≤ w'.heap.size
  block : ∀ k, k < w.heap.size → k ≠ b → k ≠ g → w'.heap[k]? = w.heap[k]?
section
variable {b g : Nat} {w w1 w2 : World}
theorem Chg2.refl (b g : Nat) (w : World) : Chg2 b g w w := ⟨rfl, rfl, rfl, Nat.le_refl _, fun _ _ _ _ => rfl⟩
theorem Chg2.of_below (h : Below w.heap.size w w1) : Chg2 b g w w1 := ⟨h.os, h.tape, h.output, h.size, fun k hk _ _ => h.block k hk⟩
theorem Chg2.trans (h : Chg2 b g w w1) (k : Chg2 b g w1 w2) : Chg2 b g w w2 :=
  ⟨k.os.trans h.os, k.tape.trans h.tape, k.output.trans h.output, Nat.le_trans h.size k.size, fun j hj h1 h2 => (k.block j (Nat.lt_of_lt_of_le hj h.size) h1 h2).trans (h.block j hj h1 h2)⟩
theorem Chg2.step (h : Chg2 b g w w1) (k : Below w1.heap.size w1 w2) : Chg2 b g w w2 := h.trans (Chg2.of_below k)
theorem Chg2.set_b (i : Nat) (v : Value) : Chg2 b g w (w.setCell ⟨b, i, none⟩ v) := ⟨rfl, rfl, rfl, by simp, fun k _ hk _ => Below.heap_setCell _ _ _ _ hk⟩
theorem Chg2.below (h : Chg2 b g w w1) {B : Nat} (hB : B ≤ w.heap.size) (hb : B ≤ b) (hg : B ≤ g) : Below B w w1 :=
  ⟨h.os, h.tape, h.output, h.size, fun k hk => h.block k (by omega) (by omega) (by omega)⟩
theorem Chg2.own (h : Chg2 b g w w1) {base e size n : Nat} {v : Value} {xs : List Value} (ho : w.ownsRow base e size v n xs) (hb : v.ownBlock ≠ some b) (hg : v.ownBlock ≠ some g) : w1.ownsRow base e size v n xs := by
  obtain ⟨h1, h2⟩ := ho
  refine ⟨h1, ?_⟩
  rcases h2 with h2 | ⟨k, cap, cur, hv, hk, hh, hr⟩
  · exact .inl h2
  · refine .inr ⟨k, cap, cur, hv, hk, ?_, hr⟩
    subst hv
    rw [h.block k (Array.getElem?_eq_some_iff.1 hh).1 (fun e => hb (by rw [e]; rfl)) (fun e => hg (by rw [e]; rfl))]
    exact hh
theorem Chg2.cell (h : Chg2 b g w w1) {k o : Nat} (hk : k < w.heap.size) (hb : k ≠ b) (hg : k ≠ g) : w1.cell? ⟨k, o, none⟩ = w.cell? ⟨k, o, none⟩ := by
  have := h.block k hk hb hg
  unfold World.cell?
  simp only [this]
end
def SlF (w : World) (b g : Nat) (A : Option Addr) (xs : List Value) : Prop := Sl w A xs ∧ (xs ≠ [] → ∀ p, A = some p → p.block ≠ b ∧ p.block ≠ g)
theorem SlF.chg {w w1 : World} {b g : Nat} {A : Option Addr} {xs : List Value} (h : SlF w b g A xs) (hc : Chg2 b g w w1) : SlF w1 b g A xs := by
  refine ⟨fun hne => ?_, h.2⟩
  obtain ⟨k, o, hA, hcs⟩ := h.1 hne
  obtain ⟨h1, h2⟩ := h.2 hne _ hA
  refine ⟨k, o, hA, fun j u hu => ?_⟩
  have := hcs j u hu
  rw [hc.cell (World.block_lt_of_cell? w _ this) h1 h2]
  exact this
theorem SlF.below {w w1 : World} {b g : Nat} {A : Option Addr} {xs : List Value} (h : SlF w b g A xs) (hb : Below w.heap.size w w1) : SlF w1 b g A xs := ⟨h.1.below hb, h.2⟩
theorem SlF.of_own {w : World} {b g base e size n c : Nat} {A : Option Addr} {xs : List Value} (ho : w.ownsRow base e size (.slice A n c) n xs) (hb : (Value.slice A n c).ownBlock ≠ some b) (hg : (Value.slice A n c).ownBlock ≠ some g) : SlF w b g A xs := by
  refine ⟨Sl.of_own ho, fun hne p hA => ?_⟩
  rcases ho.2 with ⟨hv, hn⟩ | ⟨k, cap, cur, hv, _⟩
  · injection hv with h1; rw [h1] at hA; cases hA
  · injection hv with h1
    subst h1
    injection hA with hA
    subst hA
    exact ⟨fun e => hb (by rw [← e]; rfl), fun e => hg (by rw [← e]; rfl)⟩
theorem SlF.of_old {w : World} {b g : Nat} {A : Option Addr} {xs : List Value} {W : Nat} (h : Sl w A xs) (hl : ∀ k o, A = some ⟨k, o, none⟩ → xs ≠ [] → k < W) (hb : W ≤ b) (hg : W ≤ g) : SlF w b g A xs := by
  refine ⟨h, fun hne p hA => ?_⟩
  obtain ⟨k, o, hA2, _⟩ := h hne
  rw [hA] at hA2
  injection hA2 with e
  subst e
  have := hl k o hA hne
  exact ⟨by show k ≠ b; omega, by show k ≠ g; omega⟩
structure Dv where
  on : Bool
  fused : Bool
  spare : Int
  keep : List Nt
  S : List (List Nat)
  writes : Int
def Dv.cells (d : Dv) (g : Nat) (K : Option Addr) (kc : Nat) : Array Value := #[.bool d.on, .bool d.fused, .int .i64 d.spare, .slice K d.keep.length kc, .slice (some ⟨g, 0, none⟩) d.S.length d.S.length, .int .i64 d.writes]
def Dv.new (n : Nat) : Dv := ⟨true, false, 0, [], List.replicate n (List.replicate 96 0), 0⟩
structure DrA (B : Nat) (w : World) (b g : Nat) (K : Option Addr) (kc : Nat) (d : Dv) : Prop where
  blk : w.heap[b]? = some (.cells (d.cells g K kc) 71 (0, 0))
  row : w.heap[g]? = some (.cells (by8 d.S.flatten).toArray 142 (0, 0))
  kp : w.ownsRow B 3 1 (.slice K d.keep.length kc) d.keep.length (rc Nt.cells d.keep)
  ge : B ≤ b ∧ B ≤ g
  s96 : ∀ s ∈ d.S, s.length = 96
  oct : ∀ s ∈ d.S, Oct s
  len : 1 ≤ d.S.length ∧ d.S.length ≤ 2048
  sp : 0 ≤ d.spare ∧ d.spare ≤ 9223372036854775807
  kl : d.keep.length ≤ 1000000
def DrW (B : Nat) (w : World) (b g : Nat) (d : Dv) : Prop := ∃ K kc, DrA B w b g K kc d
section
variable {B b g kc : Nat} {w w' : World} {K : Option Addr} {d : Dv}
theorem DrA.lt (h : DrA B w b g K kc d) : b < w.heap.size ∧ g < w.heap.size := ⟨(Array.getElem?_eq_some_iff.1 h.blk).1, (Array.getElem?_eq_some_iff.1 h.row).1⟩
theorem DrA.ne (h : DrA B w b g K kc d) : b ≠ g := fun e => by
  have h1 := h.blk
  rw [e, h.row] at h1
  injection h1 with h1
  injection h1 with _ h2
  exact absurd h2 (by decide)
theorem DrA.kb (h : DrA B w b g K kc d) : (Value.slice K d.keep.length kc).ownBlock ≠ some b := own_type h.kp h.blk (by decide)
theorem DrA.kg (h : DrA B w b g K kc d) : (Value.slice K d.keep.length kc).ownBlock ≠ some g := own_type h.kp h.row (by decide)
theorem DrA.below (h : DrA B w b g K kc d) (hb : Below w.heap.size w w') : DrA B w' b g K kc d :=
  ⟨by rw [hb.block b h.lt.1]; exact h.blk, by rw [hb.block g h.lt.2]; exact h.row, own_below h.kp hb, h.ge, h.s96, h.oct, h.len, h.sp, h.kl⟩
theorem DrW.below (h : DrW B w b g d) (hb : Below w.heap.size w w') : DrW B w' b g d := by
  obtain ⟨K, kc, h⟩ := h
  exact ⟨K, kc, h.below hb⟩
theorem DrA.off (h : DrA B w b g K kc d) {base e size n : Nat} {v : Value} {xs : List Value} (ho : w.ownsRow base e size v n xs) (h1 : e ≠ 71) (h2 : e ≠ 142) : v.ownBlock ≠ some b ∧ v.ownBlock ≠ some g :=
  ⟨own_type ho h.blk h1, own_type ho h.row h2⟩
theorem DrA.got (h : DrA B w b g K kc d) : w.cell? ⟨b, 0, none⟩ = some (.bool d.on) ∧ w.cell? ⟨b, 1, none⟩ = some (.bool d.fused) ∧ w.cell? ⟨b, 2, none⟩ = some (.int .i64 d.spare) ∧ w.cell? ⟨b, 3, none⟩ = some (.slice K d.keep.length kc) ∧
    w.cell? ⟨b, 4, none⟩ = some (.slice (some ⟨g, 0, none⟩) d.S.length d.S.length) ∧ w.cell? ⟨b, 5, none⟩ = some (.int .i64 d.writes) := by
  refine ⟨?_, ?_, ?_, ?_, ?_, ?_⟩ <;> (rw [cell_of_row w b _ _ _ (0, 0) h.blk]; rfl)
theorem DrA.fz (h : DrA B w b g K kc d) (i : Nat) : w.frozen? ⟨b, i, none⟩ = false := by simp [World.frozen?, h.blk]
theorem set_blk {w : World} {b i : Nat} {cur : Array Value} {t : TypeId} (v : Value) (h : w.heap[b]? = some (.cells cur t (0, 0))) : (w.setCell ⟨b, i, none⟩ v).heap[b]? = some (.cells (cur.setIfInBounds i v) t (0, 0)) := by
  rw [setCell_eq_setRow w b i _ t (0, 0) _ h]
  exact setRow_heap w b _ _ t (0, 0) h
theorem set_far {w : World} {p : Addr} (v : Value) {k : Nat} (h : k ≠ p.block) : (w.setCell p v).heap[k]? = w.heap[k]? := Below.heap_setCell _ _ _ _ h
end
theorem DrA.turn {B b g kc kc' : Nat} {w w' : World} {K K' : Option Addr} {d d' : Dv} (h : DrA B w b g K kc d) (hs : d'.S = d.S) (hb : w'.heap[b]? = some (.cells (d'.cells g K' kc') 71 (0, 0))) (hg : w'.heap[g]? = w.heap[g]?)
    (hk : w'.ownsRow B 3 1 (.slice K' d'.keep.length kc') d'.keep.length (rc Nt.cells d'.keep)) (sp : 0 ≤ d'.spare ∧ d'.spare ≤ 9223372036854775807) (kl : d'.keep.length ≤ 1000000) : DrA B w' b g K' kc' d' :=
  ⟨hb, by rw [hg, hs]; exact h.row, hk, h.ge, by rw [hs]; exact h.s96, by rw [hs]; exact h.oct, by rw [hs]; exact h.len, sp, kl⟩
theorem dsize_any {B b g kc : Nat} {K : Option Addr} {d : Dv} (w : World) (h : DrA B w b g K kc d) :
    Calls Try.prog 49 #[.pointer (some ⟨b, 0, none⟩)] w fun e w' => e = .returned (.int .i64 d.S.length) ∧ Below w.heap.size w w' := by
  obtain ⟨k0, k1, k2, k3, k4, k5⟩ := h.got
  have hlt := h.lt.1
  generalize d.S.length = n at *
  clear h
  go_enter Try.func49, Try.ntmps49
  go_wp2_with fail
  go_ret
  exact ⟨rfl, Below.refl _ _⟩
theorem dready_any {B b g kc : Nat} {K : Option Addr} {d : Dv} (w : World) (h : DrA B w b g K kc d) :
    Calls Try.prog 61 #[.pointer (some ⟨b, 0, none⟩)] w fun e w' => e = .returned (.int .i64 (if d.on = true then 0 else 9)) ∧ Below w.heap.size w w' := by
  have HS := Lib.hid (dsize_any w h)
  have hlt := h.lt.1
  have HG := Lib.hid (fun V (hV : Below w.heap.size w V) => (h.below hV).got.1)
  have hn : (((d.S.length : Nat) : Int) == 0) = false := by have := h.len.1; simpa using (by omega : ((d.S.length : Nat) : Int) ≠ 0)
  generalize d.S.length = n at *
  obtain ⟨m, hm⟩ : ∃ m, d.on = m := ⟨_, rfl⟩
  rw [hm] at HG ⊢
  clear h hm
  go_enter Try.func61, Try.ntmps61
  go_wp2_with fail
  refine HS.out.mono ?_
  rintro e w1 ⟨rfl, hb⟩
  have k0 := HG.out _ hb
  have hlt1 : b < w1.heap.size := Nat.lt_of_lt_of_le hlt hb.size
  cases m with
  | true =>
    go_wp2_with fail
    go_ret
    exact ⟨rfl, hb⟩
  | false =>
    go_wp2_with fail
    go_ret
    exact ⟨rfl, hb⟩
end
end Go.Proofs.Ytiggcpfmmgmncaa
