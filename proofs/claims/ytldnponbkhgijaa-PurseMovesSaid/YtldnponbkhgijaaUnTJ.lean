import Derived.Test.YtldnponbkhgijaaBaseJ
import Derived.Lib.SliceRun
import Derived.Deep.RegionLaw
import Derived.Test.YtldnponbkhgijaaFwTJ
section
/-
  Rows of Un in memory, and the library's and the table's functions at them. Written by program (gen_table.py).
-/
namespace Go.Proofs.Ytldnponbkhgijaa
open Go.ChangeShapes Go.WideShapes Go.ChangeAt Go.RowKit
set_option linter.unusedVariables false
set_option linter.unusedSimpArgs false

structure Un where
  (ac : Int) (cl : Int)
deriving DecidableEq

def Un.cells (g : Un) : List Value := [.int .i64 g.ac, .int .i64 g.cl]
def Un.val (g : Un) : Value := .agg #[.int .i64 g.ac, .int .i64 g.cl]
def Un.zero : Un := ⟨0, 0⟩
theorem Un.len (g : Un) : g.cells.length = 2 := rfl
theorem Un.one (g : Un) : ∀ u ∈ g.cells, u.oneCell' = true := by
  intro u hu
  simp only [Un.cells, List.mem_cons, List.not_mem_nil, or_false] at hu
  rcases hu with h | h <;> subst h <;> rfl
def Un.at (g : Un) (w : World) (b o : Nat) : Prop :=
  w.cell? ⟨b, o, none⟩ = some (.int .i64 g.ac) ∧ w.cell? ⟨b, o + 1, none⟩ = some (.int .i64 g.cl)
theorem Un.at_of {w : World} {b o : Nat} {g : Un} (h : ∀ j u, g.cells[j]? = some u → w.cell? ⟨b, o + j, none⟩ = some u) : g.at w b o :=
  ⟨h 0 _ rfl, h 1 _ rfl⟩
theorem Un.at_keep {w w' : World} {b o : Nat} {g : Un} (h : g.at w b o) (k : ∀ i, w'.cell? ⟨b, i, none⟩ = w.cell? ⟨b, i, none⟩) : g.at w' b o := by
  unfold Un.at at *
  simp only [k]
  exact h
theorem Sl.un {w : World} {A : Option Addr} {l : List Un} (h : Sl w A (rc Un.cells l)) {k : Nat} (hk : k < l.length) : ∃ b o, A = some ⟨b, o, none⟩ ∧ b < w.heap.size ∧ l[k].at w b (o + k * 2) := by
  obtain ⟨b, o, hA, hb, hc⟩ := Sl.elem (m := 2) Un.len (by decide) h hk
  exact ⟨b, o, hA, hb, Un.at_of hc⟩
theorem EUn : Elem Try.prog 129 24 2 16 := Elem.mk' (z := .agg #[.int .i64 0, .int .i64 0]) (by kernel_rfl) (by kernel_rfl) (by decide) (by decide)

/-- a function that tells of one element, in every world that agrees with w below B -/
def Un.Tells (F : Nat) (caps : Array Value) (p : Un → Bool) (B : Nat) (w : World) : Prop :=
  ∀ (g : Un) (W : World), Below B w W → Calls Try.prog F (#[g.val] ++ caps) W fun e w' => e = .returned (.bool (p g)) ∧ Below W.heap.size W w'
theorem Un.Tells.below {F : Nat} {caps : Array Value} {p : Un → Bool} {B : Nat} {w w1 : World} (h : Un.Tells F caps p B w) (hb : Below B w w1) {C : Nat} (hC : B ≤ C) : Un.Tells F caps p C w1 :=
  fun g W hW => h g W (hb.trans (hW.mono hC))



theorem set_rc_un (g : Un) : ∀ (l : List Un) (k : Nat), k < l.length → (((rc Un.cells l).set (k * 2) (.int .i64 g.ac)).set (k * 2 + 1) (.int .i64 g.cl)) = rc Un.cells (l.set k g) := by
  intro l
  induction l with
  | nil => intro k h; simp at h
  | cons a l ih =>
    intro k h
    cases k with
    | zero => simp [rc, Un.cells]
    | succ k =>
      have := ih k (by simpa using h)
      have e0 : (k + 1) * 2 = k * 2 + 2 := by omega
      rw [e0]
      simp only [rc, List.map_cons, List.flatten_cons, List.set_cons_succ, Un.cells, List.cons_append, List.nil_append] at this ⊢
      rw [← this]

theorem own_set_un {w : World} {B b k n c : Nat} {l : List Un} (h : w.ownsRow B 24 2 (.slice (some ⟨b, 0, none⟩) n c) n (rc Un.cells l)) (hk : k < l.length) (g : Un) :
    (((w.setCell ⟨b, k * 2, none⟩ (.int .i64 g.ac)).setCell ⟨b, k * 2 + 1, none⟩ (.int .i64 g.cl))).ownsRow B 24 2 (.slice (some ⟨b, 0, none⟩) n c) n (rc Un.cells (l.set k g)) := by
  rw [← set_rc_un g l k hk]
  have hl := rc_length Un.len l
  have hkk : k * 2 + 2 ≤ l.length * 2 := by have := Nat.mul_le_mul_right 2 (show k + 1 ≤ l.length from hk); omega
  refine (own_set1 (own_set1 h ?_ _) ?_ _)
  all_goals first | omega | (simp only [List.length_set]; omega)


theorem run_sizeOf_un (w : World) : (Go.sizeOf 24).run Try.prog w = .ok 2 w := by
  obtain ⟨i, z, hi, hz, hsize, hby, hzs⟩ := EUn.info
  simp [Go.sizeOf, typeInfo, hi, hsize]
theorem info_size_un : (Try.prog.info? 24).map (·.size) = some 2 := by kernel_rfl



end Go.Proofs.Ytldnponbkhgijaa
end
section
/-
  Rows of slices: what each one's header holds, and the rows that they stand for.
-/
namespace Go.Proofs.Ytldnponbkhgijaa
open Go.ChangeShapes Go.WideShapes Go.ChangeAt Go.RowKit
set_option linter.unusedVariables false
set_option linter.unusedSimpArgs false

structure RowS (α : Type) where
  A : Option Addr
  c : Nat
  l : List α
section
variable {α : Type}
def RowS.cells (s : RowS α) : List Value := [.slice s.A s.l.length s.c]
def RowS.val (s : RowS α) : Value := .slice s.A s.l.length s.c
theorem RowS.len (s : RowS α) : s.cells.length = 1 := rfl
theorem RowS.one (s : RowS α) : ∀ u ∈ s.cells, u.oneCell' = true := by
  intro u hu
  simp only [RowS.cells, List.mem_cons, List.not_mem_nil, or_false] at hu
  subst hu; rfl
def RowS.all (S : List (RowS α)) : List α := (S.map RowS.l).flatten
theorem RowS.all_nil : RowS.all ([] : List (RowS α)) = [] := rfl
theorem RowS.all_cons (s : RowS α) (S : List (RowS α)) : RowS.all (s :: S) = s.l ++ RowS.all S := by simp [RowS.all]
theorem RowS.all_append (S T : List (RowS α)) : RowS.all (S ++ T) = RowS.all S ++ RowS.all T := by simp [RowS.all]
theorem RowS.all_take {S : List (RowS α)} {k : Nat} (h : k < S.length) : RowS.all (S.take (k + 1)) = RowS.all (S.take k) ++ S[k].l := by
  rw [List.take_succ_eq_append_getElem h, RowS.all_append]; simp [RowS.all]
/-- each row's cells -/
def RowsOk (w : World) (f : α → List Value) (S : List (RowS α)) : Prop := ∀ s ∈ S, Sl w s.A (rc f s.l)
theorem RowsOk.below {w w' : World} {f : α → List Value} {S : List (RowS α)} (h : RowsOk w f S) (hb : Below w.heap.size w w') : RowsOk w' f S := fun s hs => (h s hs).below hb
theorem RowsOk.alloc {w : World} {f : α → List Value} {S : List (RowS α)} (h : RowsOk w f S) (o : Obj) : RowsOk (w.alloc o) f S := fun s hs => (h s hs).alloc o
theorem RowsOk.drew {w : World} {f : α → List Value} {S : List (RowS α)} (h : RowsOk w f S) : RowsOk w.drew f S := h
theorem Sl.rowS {w : World} {A : Option Addr} {S : List (RowS α)} (h : Sl w A (rc RowS.cells S)) {k : Nat} (hk : k < S.length) : ∃ b o, A = some ⟨b, o, none⟩ ∧ b < w.heap.size ∧ w.cell? ⟨b, o + k, none⟩ = some (.slice S[k].A S[k].l.length S[k].c) := by
  obtain ⟨b, o, hA, hb, hc⟩ := Sl.elem (m := 1) RowS.len (by decide) h hk
  have := hc 0 _ rfl
  rw [Nat.mul_one] at this
  exact ⟨b, o, hA, hb, this⟩
theorem all_len_le {S : List (RowS α)} {k : Nat} : (RowS.all (S.take k)).length ≤ (RowS.all S).length := by
  have h : RowS.all S = RowS.all (S.take k) ++ RowS.all (S.drop k) := by rw [← RowS.all_append, List.take_append_drop]
  rw [h, List.length_append]; omega
/-- a slice of structs that came in, with what holds of each -/
theorem rd_rowsP {w : World} {f : α → List Value} {p : α → Prop} {s : Shape} {A : Option Addr} {n c : Nat} (hf : ∀ r, Rd w s r → ∃ g, r = f g ∧ p g) (h : Rd w (.sl s) [.slice A n c]) :
    ∃ l : List α, l.length = n ∧ n ≤ c ∧ c ≤ maxLen ∧ Sl w A (rc f l) ∧ ∀ y ∈ l, p y := by
  obtain ⟨A', n', c', rows, e, h1, h2, h3, h4, h5⟩ := h
  simp only [List.cons.injEq, Value.slice.injEq, and_true] at e
  obtain ⟨rfl, rfl, rfl⟩ := e
  have key : ∀ rows : List (List Value), (∀ r ∈ rows, Rd w s r) → ∃ l : List α, l.length = rows.length ∧ rows.flatten = rc f l ∧ ∀ y ∈ l, p y := by
    intro rows
    induction rows with
    | nil => intro _; exact ⟨[], rfl, rfl, fun y hy => by cases hy⟩
    | cons r rows ih =>
      intro h
      obtain ⟨l, a1, a2, a3⟩ := ih (fun x hx => h x (by simp [hx]))
      obtain ⟨x, rfl, hx⟩ := hf r (h r (by simp))
      refine ⟨x :: l, by simp [a1], by simp [a2, rc], fun y hy => ?_⟩
      rcases List.mem_cons.1 hy with rfl | hy
      · exact hx
      · exact a3 y hy
  obtain ⟨l, a1, a2, a3⟩ := key rows h5
  rw [a2] at h4
  exact ⟨l, by omega, h1, h2, h4, a3⟩
/-- a slice of slices that came in -/
theorem rd_rows2 {w : World} {f : α → List Value} {p : α → Prop} {s : Shape} {A : Option Addr} {n c : Nat} (hf : ∀ r, Rd w s r → ∃ g, r = f g ∧ p g) (h : Rd w (.sl (.sl s)) [.slice A n c]) :
    ∃ S : List (RowS α), S.length = n ∧ n ≤ c ∧ c ≤ maxLen ∧ Sl w A (rc RowS.cells S) ∧ ∀ r ∈ S, r.l.length ≤ r.c ∧ r.c ≤ maxLen ∧ Sl w r.A (rc f r.l) ∧ ∀ y ∈ r.l, p y := by
  refine rd_rowsP (f := RowS.cells) (p := fun r => r.l.length ≤ r.c ∧ r.c ≤ maxLen ∧ Sl w r.A (rc f r.l) ∧ ∀ y ∈ r.l, p y) (fun r hr => ?_) h
  obtain ⟨A', n', c', e⟩ : ∃ A' n' c', r = [.slice A' n' c'] := by
    obtain ⟨A', n', c', rows, e, _⟩ := hr
    exact ⟨A', n', c', e⟩
  subst e
  obtain ⟨l, h1, h2, h3, h4, h5⟩ := rd_rowsP hf hr
  subst h1
  exact ⟨⟨A', c', l⟩, rfl, h2, h3, h4, h5⟩
end
end Go.Proofs.Ytldnponbkhgijaa
end
section
/-
  slices.Grow of nil, slices.Concat at rows of Fw (laid by gen_concat.py).
-/
namespace Go.Proofs.Ytldnponbkhgijaa
open Go.ChangeShapes Go.WideShapes Go.ChangeAt Go.RowKit
set_option linter.unusedVariables false
set_option linter.unusedSimpArgs false

theorem EFwL : Elem Try.prog 195 22 1 24 := Elem.mk' (z := .slice none 0 0) (by kernel_rfl) (by kernel_rfl) (by decide) (by decide)
set_option maxHeartbeats 4000000 in
set_option maxRecDepth 100000 in
theorem grow_nil_fw (k : Nat) (w : World) (hk : k ≤ 1000000) :
    Calls Try.prog 145 #[.slice none 0 0, .int .i64 k] w fun e w' => (∃ A' c', e = .returned (.slice A' 0 c') ∧ w'.ownsRow w.heap.size 48 3 (.slice A' 0 c') 0 []) ∧ Below w.heap.size w w' := by
  have hw1 : IntKind.i64.wrap ((k : Int) - 0) = (k : Int) := by rw [IntKind.wrap_i64]; omega
  rcases Nat.eq_zero_or_pos k with rfl | hk0
  · go_enter Try.func145, Try.ntmps145
    go_wp2_with fail
    go_ret
    exact ⟨⟨none, 0, rfl, own_nil _ _ _⟩, Below.refl _ _⟩
  obtain ⟨inf, z, hinf, hz, hsize, hby, hzs⟩ := EFw.info
  have hold : (Builtin.firstCells inf.size 0 (.slice none 0 0)).run Try.prog w.drew = .ok (#[] : Array Value) w.drew := by simp [Builtin.firstCells]
  obtain ⟨G, hG⟩ : ∃ G, G = grownCap w (0 + k) 0 48 := ⟨_, rfl⟩
  obtain ⟨ROW, hROW⟩ : ∃ ROW : Array Value, ROW = #[] ++ Builtin.zeroCells z.cells k ++ Builtin.zeroCells z.cells (G - (0 + k)) := ⟨_, rfl⟩
  have hrz : (Builtin.append_ #[22, 3] 22 #[.slice none 0 0, .int .i64 (k : Int)]).run Try.prog w = .ok (.slice (some ⟨w.heap.size, 0, none⟩) k G) (w.drew.alloc (.cells ROW 48)) := by
    have h := Lib.run_append_grow_zeros w 22 3 22 48 inf z .i64 .i64 EFw.und (by kernel_rfl) hinf hz none 0 0 [] hold k hk0 (by omega) (by omega) (by omega) (by rw [hby]; omega) (by rw [hby]; exact growslice_fits (by omega) (by omega))
    rw [← hG] at h
    rw [hROW]
    simpa using h
  have hGn : k ≤ G := by rw [hG]; have := grownCap_ge w (0 + k) 0 48; omega
  have hGm : G ≤ maxLen := by rw [hG]; exact grownCap_le_maxLen w (0 + k) 0 48 (by unfold maxLen; omega)
  have hRs : ROW.size = G * 3 := by
    rw [hROW, Array.size_append, Array.size_append, zeroCells_size _ _ (by omega), zeroCells_size _ _ (by omega), hzs]
    simp only [Array.size_empty]
    have e1 : G = k + (G - (0 + k)) := by omega
    have : G * 3 = (k + (G - (0 + k))) * 3 := by rw [← e1]
    rw [this, Nat.add_mul]; omega
  have hgn : (w.drew.alloc (.cells ROW 48)).heap[w.heap.size]? = some (.cells ROW 48 (0, 0)) := heap_alloc_new w.drew _
  have hW1 : Below w.heap.size w (w.drew.alloc (.cells ROW 48)) := Below.alloc (show Below w.heap.size w w.drew from ⟨rfl, rfl, rfl, Nat.le_refl _, fun _ _ => rfl⟩) (Nat.le_refl _) _
  generalize w.drew.alloc (.cells ROW 48) = W1 at hrz hgn hW1
  have HRZ := Lib.hid hrz
  have HOWN : Hid (W1.ownsRow w.heap.size 48 3 (.slice (some ⟨w.heap.size, 0, none⟩) 0 G) 0 []) := Lib.hid ⟨by simp, .inr ⟨w.heap.size, G, ROW, rfl, Nat.le_refl _, hgn, Nat.zero_le _, hGm, hRs, by simp⟩⟩
  have hkp : (0 : Int) < (k : Int) := by omega
  have hG0 : (0 : Int) ≤ (G : Int) := by omega
  clear hold hROW hG hRs hrz hgn hsize hby hzs hinf hz
  go_enter Try.func145, Try.ntmps145
  go_wp2_with (first | (at_builtin; refine Lib.wpList_append_run _ rfl _ _ _ _ rfl _ _ rfl rfl _ _ HRZ.out ?_) | fail)
  go_ret
  exact ⟨⟨_, _, rfl, HOWN.out⟩, hW1⟩
set_option maxHeartbeats 4000000 in
set_option maxRecDepth 100000 in
theorem concat_fw (A : Option Addr) (cap : Nat) (S : List (RowS Fw)) (w : World) (hl : S.length ≤ 1000000) (hn : (RowS.all S).length ≤ 900000) (hs : Sl w A (rc RowS.cells S)) (ho : RowsOk w Fw.cells S) :
    Calls Try.prog 86 #[.slice A S.length cap] w fun e w' => (∃ A' c', e = .returned (.slice A' (RowS.all S).length c') ∧ w'.ownsRow w.heap.size 48 3 (.slice A' (RowS.all S).length c') (RowS.all S).length (rc Fw.cells (RowS.all S))) ∧ Below w.heap.size w w' := by
  go_enter Try.func86, Try.ntmps86
  go_wp2_with fail
  go_loopw [3, 5, 11] (fun sz sv i wr => ∃ k : Nat, k ≤ S.length ∧ i = .int .i64 k ∧ sz = .int .i64 (RowS.all (S.take k)).length ∧ Below w.heap.size w wr) (fun _ _ i _ => S.length - (intOf i).toNat)
  case atStart => exact ⟨0, by omega, rfl, rfl, Below.refl _ _⟩
  case round =>
    obtain ⟨k, hk, rfl, rfl, hB⟩ := hrel
    by_cases hlt : k < S.length
    · obtain ⟨b, o, rfl, hbw, hg⟩ := (hs.below hB).rowS hlt
      have hlk : (k : Int) < (S.length : Int) := by omega
      have HT := Lib.hid (RowS.all_take hlt)
      have hle := @all_len_le _ S (k + 1)
      rw [HT.out, List.length_append] at hle
      have hadd : IntKind.i64.wrap (((RowS.all (S.take k)).length : Int) + (S[k].l.length : Int)) = ((RowS.all (S.take k)).length : Int) + (S[k].l.length : Int) := IntWalk.i64_in _ (by omega)
      have hnn : ¬ (((RowS.all (S.take k)).length : Int) + (S[k].l.length : Int) < 0) := by omega
      have HEQ : Hid (((RowS.all (S.take k)).length : Int) + (S[k].l.length : Int) = ((RowS.all (S.take (k + 1))).length : Int)) := Lib.hid (by rw [HT.out, List.length_append]; omega)
      obtain ⟨N, hN⟩ : ∃ N, (RowS.all (S.take k)).length = N := ⟨_, rfl⟩
      rw [hN] at hadd hnn hle HEQ ⊢
      generalize S[k].l.length = M at *
      clear hN
      go_wp2_with fail
      go_roundw
      case rel => exact ⟨k + 1, by omega, by go_num, by rw [← HEQ.out], hB⟩
      case measure => simp [intOf]; omega
    · obtain rfl : k = S.length := by omega
      rw [List.take_length]
      have hwr := hB.size
      have HG := Lib.hid (grow_nil_fw (RowS.all S).length wr (by omega))
      have HN := Lib.hid hn
      obtain ⟨N, hN⟩ : ∃ N, (RowS.all S).length = N := ⟨_, rfl⟩
      have HNN := Lib.hid hN
      rw [hN] at HG HN ⊢
      clear hn hN
      go_wp2_with fail
      refine HG.out.mono ?_
      rintro e w1 ⟨⟨A1, c1, rfl, own1⟩, hb⟩
      have hB1 := since_step hB hb
      have own1 := own_base own1 hwr
      clear hb hB HG
      go_wp2_with fail
      go_loopw [6, 8, 27] (fun rv sv i wr' => ∃ (k : Nat) (A2 : Option Addr) (c2 : Nat), k ≤ S.length ∧ i = .int .i64 k ∧ rv = .slice A2 (RowS.all (S.take k)).length c2 ∧ wr'.ownsRow w.heap.size 48 3 (.slice A2 (RowS.all (S.take k)).length c2) (RowS.all (S.take k)).length (rc Fw.cells (RowS.all (S.take k))) ∧ Below w.heap.size w wr') (fun _ _ i _ => S.length - (intOf i).toNat)
      case atStart => exact ⟨0, A1, c1, by omega, rfl, rfl, own1, hB1⟩
      case round =>
        obtain ⟨k, A2, c2, hk, rfl, rfl, own2, hB2⟩ := hrel
        by_cases hlt : k < S.length
        · obtain ⟨b, o, rfl, hbw, hg⟩ := (hs.below hB2).rowS hlt
          have hin := (ho.below hB2) S[k] (List.getElem_mem hlt)
          have hlk : (k : Int) < (S.length : Int) := by omega
          have HT := Lib.hid (RowS.all_take hlt)
          have hle := @all_len_le _ S (k + 1)
          have hNo := HN.out
          rw [HNN.out, HT.out, List.length_append] at hle
          have hsz := hB2.size
          obtain ⟨R, hR⟩ : ∃ R, RowS.all (S.take k) = R := ⟨_, rfl⟩
          obtain ⟨s, hs1⟩ : ∃ s, S[k] = s := ⟨_, rfl⟩
          rw [hR, hs1] at hle HT
          rw [hR] at own2 ⊢
          rw [hs1] at hin hg
          have h63 : R.length + s.l.length ≤ 1000000 := by omega
          clear hR hs1 hle hNo
          go_wp2_with (first
            | (at_builtin; refine wpList_app rfl (.tmp 31) (.tmp 32) rfl EFw rfl rfl own2 (rc_length Fw.len s.l) hin (rc_one Fw.one _) (by unfold maxLen; omega) (by omega) hsz ?_; intro A3 c3 w3 own3 hg3 hb3)
            | fail)
          go_roundw
          case rel => exact ⟨k + 1, A3, c3, by omega, by go_num, by rw [HT.out, List.length_append], by rw [HT.out, List.length_append, rc_append]; exact own3, hB2.trans hb3⟩
          case measure => simp [intOf]; omega
        · obtain rfl : k = S.length := by omega
          rw [List.take_length] at own2 ⊢
          go_wp2_with fail
          go_ret
          exact ⟨⟨A2, c2, rfl, own2⟩, hB2⟩
end Go.Proofs.Ytldnponbkhgijaa
end
