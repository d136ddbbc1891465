import Derived.IntWalk
import Derived.Laws.Bits64
import Derived.Laws.BitsAllLaws
import Derived.Laws.Externs
import Derived.Test.YtmjndpkfhdoljaaGreatCm02
import Derived.Test.YtmjndpkfhdoljaaGreatCm05
import Derived.Test.YtmjndpkfhdoljaaGreatCm04
set_option maxHeartbeats 16000000
set_option maxRecDepth 100000
set_option linter.unusedVariables false
set_option linter.unusedSimpArgs false
section
namespace Go.Proofs.YtmjndpkfhdoljaaGreat

def hiN (x : Int) : Int := IntKind.i64.wrap (x / 18446744073709551616)
def loN (x : Int) : Int := x % 18446744073709551616
def topN (x : Int) : Int := IntKind.i64.wrap (x / 340282366920938463463374607431768211456)
def In128 (x : Int) : Prop := -170141183460469231731687303715884105728 ≤ x ∧ x ≤ 170141183460469231731687303715884105727
def In64 (x : Int) : Prop := -9223372036854775808 ≤ x ∧ x ≤ 9223372036854775807
def In192 (x : Int) : Prop := -3138550867693340381917894711603833208051177722232017256448 ≤ x ∧ x < 3138550867693340381917894711603833208051177722232017256448
instance (x : Int) : Decidable (In128 x) := by unfold In128; infer_instance
instance (x : Int) : Decidable (In64 x) := by unfold In64; infer_instance
theorem lo_nn (x : Int) : 0 ≤ loN x := by unfold loN; omega
theorem lo_lt (x : Int) : loN x < 18446744073709551616 := by unfold loN; omega
theorem uwrap_rng (x : Int) : 0 ≤ IntKind.u64.wrap x ∧ IntKind.u64.wrap x < 18446744073709551616 := by rw [IntKind.wrap_u64]; omega
theorem uhi (x : Int) : IntKind.u64.wrap (hiN x) = x / 18446744073709551616 % 18446744073709551616 := by
  unfold hiN
  rw [IntKind.wrap_i64, IntKind.wrap_u64]
  omega
theorem utop (x : Int) : IntKind.u64.wrap (topN x) = x / 340282366920938463463374607431768211456 % 18446744073709551616 := by
  unfold topN
  rw [IntKind.wrap_i64, IntKind.wrap_u64]
  omega
theorem plus_parts (x y s0 k0 s1 k1 s2 k2 : Int)
    (h0 : loN x + loN y + 0 = s0 + 18446744073709551616 * k0) (b0 : 0 ≤ s0 ∧ s0 < 18446744073709551616)
    (h1 : IntKind.u64.wrap (hiN x) + IntKind.u64.wrap (hiN y) + k0 = s1 + 18446744073709551616 * k1) (b1 : 0 ≤ s1 ∧ s1 < 18446744073709551616)
    (h2 : IntKind.u64.wrap (topN x) + IntKind.u64.wrap (topN y) + k1 = s2 + 18446744073709551616 * k2) (b2 : 0 ≤ s2 ∧ s2 < 18446744073709551616) :
    s0 = loN (x + y) ∧ IntKind.i64.wrap s1 = hiN (x + y) ∧ IntKind.i64.wrap s2 = topN (x + y) := by
  rw [uhi, uhi] at h1
  rw [utop, utop] at h2
  unfold loN at *
  unfold hiN topN
  have e0 : s0 = (x + y) % 18446744073709551616 := by omega
  have q0 : (x + y) / 18446744073709551616 = x / 18446744073709551616 + y / 18446744073709551616 + k0 := by omega
  have dx : x / 340282366920938463463374607431768211456 = x / 18446744073709551616 / 18446744073709551616 := by omega
  have dy : y / 340282366920938463463374607431768211456 = y / 18446744073709551616 / 18446744073709551616 := by omega
  have dz : (x + y) / 340282366920938463463374607431768211456 = (x + y) / 18446744073709551616 / 18446744073709551616 := by omega
  rw [dx, dy] at h2
  rw [dz, q0]
  generalize x / 18446744073709551616 = a at *
  generalize y / 18446744073709551616 = b at *
  have e1 : s1 = (a + b + k0) % 18446744073709551616 := by omega
  have q1 : (a + b + k0) / 18446744073709551616 = a / 18446744073709551616 + b / 18446744073709551616 + k1 := by omega
  refine ⟨e0, ?_, ?_⟩
  · rw [IntKind.wrap_i64, IntKind.wrap_i64, e1]; omega
  · rw [q1, IntKind.wrap_i64, IntKind.wrap_i64]
    have e2 : s2 = (a / 18446744073709551616 + b / 18446744073709551616 + k1) % 18446744073709551616 := by omega
    rw [e2]; omega
theorem minus_parts (x s0 k0 s1 k1 s2 k2 : Int)
    (h0 : 0 - loN x - 0 = s0 - 18446744073709551616 * k0) (b0 : 0 ≤ s0 ∧ s0 < 18446744073709551616)
    (h1 : 0 - IntKind.u64.wrap (hiN x) - k0 = s1 - 18446744073709551616 * k1) (b1 : 0 ≤ s1 ∧ s1 < 18446744073709551616)
    (h2 : 0 - IntKind.u64.wrap (topN x) - k1 = s2 - 18446744073709551616 * k2) (b2 : 0 ≤ s2 ∧ s2 < 18446744073709551616) :
    s0 = loN (-x) ∧ IntKind.i64.wrap s1 = hiN (-x) ∧ IntKind.i64.wrap s2 = topN (-x) := by
  rw [uhi] at h1
  rw [utop] at h2
  unfold loN at *
  unfold hiN topN
  have e0 : s0 = (-x) % 18446744073709551616 := by omega
  have q0 : (-x) / 18446744073709551616 = -(x / 18446744073709551616) - k0 := by omega
  have dx : x / 340282366920938463463374607431768211456 = x / 18446744073709551616 / 18446744073709551616 := by omega
  have dz : (-x) / 340282366920938463463374607431768211456 = (-x) / 18446744073709551616 / 18446744073709551616 := by omega
  rw [dx] at h2
  rw [dz, q0]
  generalize x / 18446744073709551616 = a at *
  have e1 : s1 = (-a - k0) % 18446744073709551616 := by omega
  have q1 : (-a - k0) / 18446744073709551616 = -(a / 18446744073709551616) - k1 := by omega
  refine ⟨e0, ?_, ?_⟩
  · rw [IntKind.wrap_i64, IntKind.wrap_i64, e1]; omega
  · rw [q1, IntKind.wrap_i64, IntKind.wrap_i64]
    have e2 : s2 = (-(a / 18446744073709551616) - k1) % 18446744073709551616 := by omega
    rw [e2]; omega
theorem hi_in {x : Int} (h : In128 x) : hiN x = x / 18446744073709551616 := by
  unfold hiN In128 at *
  rw [IntKind.wrap_i64]; omega
theorem top_in {x : Int} (h : In128 x) : topN x = hiN x / 9223372036854775808 := by
  rw [hi_in h]
  unfold topN In128 at *
  rw [IntKind.wrap_i64]; omega
theorem split_in {x : Int} (h : In128 x) : x = hiN x * 18446744073709551616 + loN x := by
  rw [hi_in h]; unfold loN; omega
theorem narrow_iff {x : Int} (h : In192 x) : topN x = hiN x / 9223372036854775808 ↔ In128 x := by
  constructor
  · intro e
    unfold topN hiN In192 In128 at *
    have dx : x / 340282366920938463463374607431768211456 = x / 18446744073709551616 / 18446744073709551616 := by omega
    have hb : -170141183460469231731687303715884105728 ≤ x / 18446744073709551616 ∧ x / 18446744073709551616 < 170141183460469231731687303715884105728 := by omega
    rw [dx] at e
    have : -9223372036854775808 ≤ x / 18446744073709551616 ∧ x / 18446744073709551616 ≤ 9223372036854775807 := by
      clear h dx
      generalize x / 18446744073709551616 = a at *
      rw [IntKind.wrap_i64, IntKind.wrap_i64] at e
      omega
    clear e
    omega
  · exact top_in
theorem parts_inj {x y : Int} (hx : In128 x) (hy : In128 y) (h : hiN x = hiN y) (l : loN x = loN y) : x = y := by
  rw [split_in hx, split_in hy, h, l]
theorem of_in (n : Int) (h : In64 n) : hiN n = n / 9223372036854775808 ∧ loN n = IntKind.u64.wrap n ∧ In128 n := by
  unfold In64 at h
  refine ⟨?_, ?_, ?_⟩
  · unfold hiN; rw [IntKind.wrap_i64]; omega
  · unfold loN; rw [IntKind.wrap_u64]
  · unfold In128; omega
theorem int_iff {x : Int} (h : In128 x) : hiN x = IntKind.i64.wrap (loN x) / 9223372036854775808 ↔ In64 x := by
  rw [hi_in h]
  unfold In128 In64 loN at *
  rw [IntKind.wrap_i64]
  omega
theorem int_lo {x : Int} (h : In64 x) : IntKind.i64.wrap (loN x) = x := by
  unfold In64 loN at *
  rw [IntKind.wrap_i64]; omega
theorem run_add64' {P : Program} {f : FuncId} {fn : Func} (hf : P.funcs[f]? = some fn) (hname : (fn.name == "runtime.NumGoroutine") = false)
    (hb : fn.body.isNone = true) (hn : Extern.findNext fn = none) (he : Extern.find fn = some add64Entry) (x y c : Int) (hx : 0 ≤ x ∧ x < 18446744073709551616) (hy : 0 ≤ y ∧ y < 18446744073709551616) (hc : 0 ≤ c ∧ c ≤ 1) :
    ∃ s k : Int, (∀ w, (callFunc f #[.int .u64 x, .int .u64 y, .int .u64 c]).run P w = .ok (.value (.tuple #[.int .u64 s, .int .u64 k])) w) ∧ x + y + c = s + 18446744073709551616 * k ∧ (0 ≤ s ∧ s < 18446744073709551616) ∧ (0 ≤ k ∧ k ≤ 1) := by
  refine ⟨(x + y + c) % 18446744073709551616, (x + y + c) / 18446744073709551616, fun w => ?_, by omega, by omega, by omega⟩
  rw [run_callFunc_extern hf hname hb hn he, run_add64 x y c hx.1 hy.1 hc.1 hc.2]
  rfl
def sub64Row : Array Value → Sem Value := fun args => do
  let (x, y, b) ← Extern.MathBitsCarry.three "Sub64" args
  pure (Extern.MathBitsCarry.pair ((x + Extern.MathBitsCarry.m64 - y - b) % Extern.MathBitsCarry.m64) (if x < y + b then 1 else 0))
theorem run_sub64' {P : Program} {f : FuncId} {fn : Func} (hf : P.funcs[f]? = some fn) (hname : (fn.name == "runtime.NumGoroutine") = false)
    (hb : fn.body.isNone = true) (hn : Extern.findNext fn = none) (he : Extern.find fn = some sub64Row) (x y c : Int) (hx : 0 ≤ x ∧ x < 18446744073709551616) (hy : 0 ≤ y ∧ y < 18446744073709551616) (hc : 0 ≤ c ∧ c ≤ 1) :
    ∃ s k : Int, (∀ w, (callFunc f #[.int .u64 x, .int .u64 y, .int .u64 c]).run P w = .ok (.value (.tuple #[.int .u64 s, .int .u64 k])) w) ∧ x - y - c = s - 18446744073709551616 * k ∧ (0 ≤ s ∧ s < 18446744073709551616) ∧ (0 ≤ k ∧ k ≤ 1) := by
  obtain ⟨a, rfl⟩ := Int.eq_ofNat_of_zero_le hx.1
  obtain ⟨b, rfl⟩ := Int.eq_ofNat_of_zero_le hy.1
  obtain ⟨k, rfl⟩ := Int.eq_ofNat_of_zero_le hc.1
  refine ⟨(((a + 18446744073709551616 - b - k) % 18446744073709551616 : Nat) : Int), ((if a < b + k then 1 else 0 : Nat) : Int), fun w => ?_, ?_, by omega, by split <;> omega⟩
  · rw [run_callFunc_extern hf hname hb hn he]
    have hk : k = 0 ∨ k = 1 := by omega
    rcases hk with rfl | rfl <;> rfl
  · split <;> omega
end Go.Proofs.YtmjndpkfhdoljaaGreat
end
namespace Go.Proofs.YtmjndpkfhdoljaaGreat
open Go.ChangeShapes Go.WideShapes Go.ChangeAt Go.RowKit
section
def keyLt (a c a' c' : Int) : Bool := decide (a < a' ∨ a = a' ∧ c < c')
theorem keyLt_iff (a c a' c' : Int) : keyLt a c a' c' = true ↔ a < a' ∨ a = a' ∧ c < c' := by simp [keyLt]
theorem keyLt_not (a c a' c' : Int) : keyLt a c a' c' = false ↔ ¬ (a < a' ∨ a = a' ∧ c < c') := by rw [← keyLt_iff]; simp
theorem bext {a b : Bool} (h : a = true ↔ b = true) : a = b := by cases a <;> cases b <;> simp_all
theorem ord_key {α : Type} (f g : α → Int) : Ord (fun x y : α => keyLt (f x) (g x) (f y) (g y)) where
  tr := fun a b c h1 h2 => by simp only [keyLt_iff] at *; omega
  asy := fun a b h => by simp only [keyLt_iff, keyLt_not] at *; omega
  cong := fun a x b h1 h2 => bext (by simp only [keyLt_iff, keyLt_not] at *; omega)
  cong2 := fun a x b h1 h2 => bext (by simp only [keyLt_iff, keyLt_not] at *; omega)
def ahF (x y : Fw) : Bool := keyLt x.ac x.cl y.ac y.cl
theorem ordF : Ord ahF := ord_key Fw.ac Fw.cl
def ahUn (x y : Un) : Bool := keyLt x.ac x.cl y.ac y.cl
theorem ordUn : Ord ahUn := ord_key Un.ac Un.cl
def unF (a c : Int) (x : Fw) : Bool := x.ac == a && x.cl == c
theorem unF_iff (a c : Int) (x : Fw) : unF a c x = true ↔ x.ac = a ∧ x.cl = c := by simp [unF]
def isF (l : List Fw) : Bool := l.all (fun x => x.amt != 0) && risingL ahF l
def getF (l : List Fw) (a c : Int) : Int := (pickL (unF a c) Fw.zero l).amt
def sumU (l : List Fw) (a c : Int) : Int := ((l.filter (unF a c)).map Fw.amt).sum
def unitsU (l : List Fw) : List Un := l.foldl (fun us x => putR ahUn us ⟨x.ac, x.cl⟩) []
def purseOf (all : List Fw) : List Fw := ((unitsU all).map fun u => (⟨u.ac, u.cl, sumU all u.ac u.cl⟩ : Fw)).filter fun x => x.amt != 0
def fitI (z : Int) : Bool := decide (-9223372036854775808 ≤ z) && decide (z ≤ 9223372036854775807)
theorem fitI_iff (z : Int) : fitI z = true ↔ In64 z := by simp [fitI, In64]
def fitsU (all : List Fw) : Bool := (unitsU all).all fun u => fitI (sumU all u.ac u.cl)
def payR (l fs : List Fw) : Int × List Fw := if isF l = false then (3, []) else if fitsU (l ++ fs) = false then (7, []) else (0, purseOf (l ++ fs))
theorem sorted_ext {α : Type} {ah : α → α → Bool} (o : Ord ah) : ∀ (A B : List α), A.Pairwise (fun a b => ah a b = true) → B.Pairwise (fun a b => ah a b = true) → (∀ x, x ∈ A ↔ x ∈ B) → A = B
  | [], [], _, _, _ => rfl
  | [], b :: B, _, _, h => by have := (h b).2 (by simp); cases this
  | a :: A, [], _, _, h => by have := (h a).1 (by simp); cases this
  | a :: A, b :: B, hA, hB, h => by
    have irr : ∀ x, ah x x = false := fun x => by
      cases e : ah x x with
      | false => rfl
      | true => have := o.asy _ _ e; rw [e] at this; cases this
    have e : a = b := by
      rcases List.mem_cons.1 ((h a).1 (by simp)) with e | h1
      · exact e
      · rcases List.mem_cons.1 ((h b).2 (by simp)) with e | h2
        · exact e.symm
        · have h3 := List.rel_of_pairwise_cons hA h2
          have h4 := List.rel_of_pairwise_cons hB h1
          rw [o.asy _ _ h3] at h4; cases h4
    subst e
    have hx : ∀ x, x ∈ A ↔ x ∈ B := fun x => by
      constructor
      · intro hx
        rcases List.mem_cons.1 ((h x).1 (by simp [hx])) with e | h1
        · subst e
          have := List.rel_of_pairwise_cons hA hx
          rw [irr] at this; cases this
        · exact h1
      · intro hx
        rcases List.mem_cons.1 ((h x).2 (by simp [hx])) with e | h1
        · subst e
          have := List.rel_of_pairwise_cons hB hx
          rw [irr] at this; cases this
        · exact h1
    rw [sorted_ext o A B hA.of_cons hB.of_cons hx]
theorem mem_putUn (u : Un) : ∀ (us : List Un) (v : Un), v ∈ putR ahUn us u ↔ v = u ∨ v ∈ us
  | [], v => by simp [putR]
  | a :: r, v => by
    have ih := mem_putUn u r v
    unfold putR
    split
    · simp only [List.mem_cons, ih]
      constructor
      · rintro (h | h | h) <;> simp [h]
      · rintro (h | h | h) <;> simp [h]
    · split
      · simp
      · rename_i h1 h2
        have e : a = u := by
          simp only [ahUn, Bool.not_eq_true, keyLt_not] at h1 h2
          cases a; cases u
          simp only [Un.mk.injEq] at *
          omega
        subst e
        simp
theorem fold_units (l : List Fw) : ∀ us : List Un, us.Pairwise (fun a b => ahUn a b = true) → (l.foldl (fun us x => putR ahUn us ⟨x.ac, x.cl⟩) us).Pairwise (fun a b => ahUn a b = true) ∧ ∀ u, u ∈ l.foldl (fun us x => putR ahUn us ⟨x.ac, x.cl⟩) us ↔ u ∈ us ∨ ∃ x ∈ l, x.ac = u.ac ∧ x.cl = u.cl := by
  induction l with
  | nil => intro us h; exact ⟨h, fun u => by simp⟩
  | cons a r ih =>
    intro us h
    obtain ⟨h1, h2⟩ := ih _ (pairwise_putR ordUn ⟨a.ac, a.cl⟩ us h)
    refine ⟨h1, fun u => ?_⟩
    rw [List.foldl_cons, h2, mem_putUn]
    constructor
    · rintro ((h | h) | ⟨x, hx, hu⟩)
      · subst h; exact .inr ⟨a, by simp, rfl, rfl⟩
      · exact .inl h
      · exact .inr ⟨x, by simp [hx], hu⟩
    · rintro (h | ⟨x, hx, h3, h4⟩)
      · exact .inl (.inr h)
      · rcases List.mem_cons.1 hx with rfl | hx
        · exact .inl (.inl (by cases u; simp only at h3 h4; rw [h3, h4]))
        · exact .inr ⟨x, hx, h3, h4⟩
theorem unitsU_sorted (l : List Fw) : (unitsU l).Pairwise (fun a b => ahUn a b = true) := (fold_units l [] List.Pairwise.nil).1
theorem mem_unitsU (l : List Fw) (u : Un) : u ∈ unitsU l ↔ ∃ x ∈ l, x.ac = u.ac ∧ x.cl = u.cl := by
  have := (fold_units l [] List.Pairwise.nil).2 u
  simpa [unitsU] using this
theorem purseOf_sorted (all : List Fw) : (purseOf all).Pairwise (fun a b => ahF a b = true) := by
  unfold purseOf
  refine List.Pairwise.filter _ ?_
  rw [List.pairwise_map]
  exact (unitsU_sorted all).imp fun h => h
theorem mem_purseOf (all : List Fw) (x : Fw) : x ∈ purseOf all ↔ (∃ y ∈ all, y.ac = x.ac ∧ y.cl = x.cl) ∧ x.amt = sumU all x.ac x.cl ∧ x.amt ≠ 0 := by
  unfold purseOf
  rw [List.mem_filter, List.mem_map]
  constructor
  · rintro ⟨⟨u, hu, rfl⟩, h⟩
    exact ⟨(mem_unitsU all u).1 hu, rfl, by simpa using h⟩
  · rintro ⟨h1, h2, h3⟩
    refine ⟨⟨⟨x.ac, x.cl⟩, (mem_unitsU all _).2 h1, ?_⟩, by simpa using h3⟩
    cases x
    simp only at h2 ⊢
    rw [← h2]
theorem isF_sorted {l : List Fw} (h : isF l = true) : l.Pairwise (fun a b => ahF a b = true) := by
  simp only [isF, Bool.and_eq_true] at h
  exact (rising_pairwise ordF l).1 h.2
theorem isF_amt {l : List Fw} (h : isF l = true) : ∀ x ∈ l, x.amt ≠ 0 := by
  simp only [isF, Bool.and_eq_true, List.all_eq_true] at h
  intro x hx
  simpa using h.1 x hx
theorem isF_of {l : List Fw} (h1 : l.Pairwise (fun a b => ahF a b = true)) (h2 : ∀ x ∈ l, x.amt ≠ 0) : isF l = true := by
  simp only [isF, Bool.and_eq_true, List.all_eq_true]
  exact ⟨fun x hx => by simpa using h2 x hx, (rising_pairwise ordF l).2 h1⟩
theorem sumU_cons (x : Fw) (l : List Fw) (a c : Int) : sumU (x :: l) a c = (if unF a c x = true then x.amt else 0) + sumU l a c := by
  unfold sumU
  rw [List.filter_cons]
  split <;> simp
theorem sumU_append (l m : List Fw) (a c : Int) : sumU (l ++ m) a c = sumU l a c + sumU m a c := by
  simp [sumU]
theorem sumU_none {l : List Fw} {a c : Int} (h : ∀ x ∈ l, unF a c x = false) : sumU l a c = 0 := by
  unfold sumU
  rw [List.filter_eq_nil_iff.2 (fun x hx => by rw [h x hx]; decide)]
  rfl
theorem getF_purse : ∀ {l : List Fw}, l.Pairwise (fun a b => ahF a b = true) → ∀ a c, getF l a c = sumU l a c
  | [], _, a, c => rfl
  | x :: l, h, a, c => by
    have ih := getF_purse h.of_cons a c
    rw [sumU_cons]
    unfold getF pickL at *
    rw [List.find?_cons]
    cases hx : unF a c x with
    | true =>
      rw [sumU_none]
      · simp
      · intro y hy
        have h1 := List.rel_of_pairwise_cons h hy
        rw [← Bool.not_eq_true]
        intro h2
        rw [unF_iff] at hx h2
        simp only [ahF, keyLt_iff] at h1
        omega
    | false => rw [ih]; simp
theorem sumU_purseOf (all : List Fw) (a c : Int) : sumU (purseOf all) a c = sumU all a c := by
  have h := getF_purse (purseOf_sorted all) a c
  rw [← h]
  unfold getF pickL
  cases hf : (purseOf all).find? (unF a c) with
  | some x =>
    have h1 := List.mem_of_find?_eq_some hf
    have h2 := List.find?_some hf
    rw [unF_iff] at h2
    obtain ⟨_, h3, _⟩ := (mem_purseOf all x).1 h1
    rw [h2.1, h2.2] at h3
    exact h3
  | none =>
    show (0 : Int) = _
    rw [List.find?_eq_none] at hf
    by_cases hk : ∃ y ∈ all, y.ac = a ∧ y.cl = c
    · by_cases h0 : sumU all a c = 0
      · exact h0.symm
      · have := hf ⟨a, c, sumU all a c⟩ ((mem_purseOf all _).2 ⟨hk, rfl, h0⟩)
        simp [unF] at this
    · rw [sumU_none]
      intro x hx
      rw [← Bool.not_eq_true]
      intro h
      rw [unF_iff] at h
      exact hk ⟨x, hx, h⟩
end
section
structure RowS (α : Type) where
  A : Option Addr
  c : Nat
  l : List α
section
variable {α : Type}
def RowS.cells (s : RowS α) : List Value := [.slice s.A s.l.length s.c]
def RowS.val (s : RowS α) : Value := .slice s.A s.l.length s.c
theorem RowS.len (s : RowS α) : s.cells.length = 1 := rfl
theorem RowS.one (s : RowS α) : ∀ u ∈ s.cells, u.oneCell' = true := by
  intro u hu
  simp only [RowS.cells, List.mem_cons, List.not_mem_nil, or_false] at hu
  subst hu; rfl
def RowS.all (S : List (RowS α)) : List α := (S.map RowS.l).flatten
theorem RowS.all_cons (s : RowS α) (S : List (RowS α)) : RowS.all (s :: S) = s.l ++ RowS.all S := by simp [RowS.all]
theorem RowS.all_append (S T : List (RowS α)) : RowS.all (S ++ T) = RowS.all S ++ RowS.all T := by simp [RowS.all]
theorem RowS.all_take {S : List (RowS α)} {k : Nat} (h : k < S.length) : RowS.all (S.take (k + 1)) = RowS.all (S.take k) ++ S[k].l := by
  rw [List.take_succ_eq_append_getElem h, RowS.all_append]; simp [RowS.all]
def RowsOk (w : World) (f : α → List Value) (S : List (RowS α)) : Prop := ∀ s ∈ S, Sl w s.A (rc f s.l)
theorem RowsOk.below {w w' : World} {f : α → List Value} {S : List (RowS α)} (h : RowsOk w f S) (hb : Below w.heap.size w w') : RowsOk w' f S := fun s hs => (h s hs).below hb
theorem RowsOk.alloc {w : World} {f : α → List Value} {S : List (RowS α)} (h : RowsOk w f S) (o : Obj) : RowsOk (w.alloc o) f S := fun s hs => (h s hs).alloc o
theorem RowsOk.drew {w : World} {f : α → List Value} {S : List (RowS α)} (h : RowsOk w f S) : RowsOk w.drew f S := h
theorem Sl.rowS {w : World} {A : Option Addr} {S : List (RowS α)} (h : Sl w A (rc RowS.cells S)) {k : Nat} (hk : k < S.length) : ∃ b o, A = some ⟨b, o, none⟩ ∧ b < w.heap.size ∧ w.cell? ⟨b, o + k, none⟩ = some (.slice S[k].A S[k].l.length S[k].c) := by
  obtain ⟨b, o, hA, hb, hc⟩ := Sl.elem (m := 1) RowS.len (by decide) h hk
  have := hc 0 _ rfl
  rw [Nat.mul_one] at this
  exact ⟨b, o, hA, hb, this⟩
theorem all_len_le {S : List (RowS α)} {k : Nat} : (RowS.all (S.take k)).length ≤ (RowS.all S).length := by
  have h : RowS.all S = RowS.all (S.take k) ++ RowS.all (S.drop k) := by rw [← RowS.all_append, List.take_append_drop]
  rw [h, List.length_append]; omega
theorem rd_rowsP {w : World} {f : α → List Value} {p : α → Prop} {s : Shape} {A : Option Addr} {n c : Nat} (hf : ∀ r, Rd w s r → ∃ g, r = f g ∧ p g) (h : Rd w (.sl s) [.slice A n c]) :
    ∃ l : List α, l.length = n ∧ n ≤ c ∧ c ≤ maxLen ∧ Sl w A (rc f l) ∧ ∀ y ∈ l, p y := by
  obtain ⟨A', n', c', rows, e, h1, h2, h3, h4, h5⟩ := h
  simp only [List.cons.injEq, Value.slice.injEq, and_true] at e
  obtain ⟨rfl, rfl, rfl⟩ := e
  have key : ∀ rows : List (List Value), (∀ r ∈ rows, Rd w s r) → ∃ l : List α, l.length = rows.length ∧ rows.flatten = rc f l ∧ ∀ y ∈ l, p y := by
    intro rows
    induction rows with
    | nil => intro _; exact ⟨[], rfl, rfl, fun y hy => by cases hy⟩
    | cons r rows ih =>
      intro h
      obtain ⟨l, a1, a2, a3⟩ := ih (fun x hx => h x (by simp [hx]))
      obtain ⟨x, rfl, hx⟩ := hf r (h r (by simp))
      refine ⟨x :: l, by simp [a1], by simp [a2, rc], fun y hy => ?_⟩
      rcases List.mem_cons.1 hy with rfl | hy
      · exact hx
      · exact a3 y hy
  obtain ⟨l, a1, a2, a3⟩ := key rows h5
  rw [a2] at h4
  exact ⟨l, by omega, h1, h2, h4, a3⟩
end
end
section
def okG (x : Lg) : Bool := decide (1 ≤ x.ins) && decide (x.ins ≤ 8) && !(x.qty == 0)
def ahG (x y : Lg) : Bool := decide (x.ins < y.ins)
def isG (l : List Lg) : Bool := l.all okG && risingL ahG l
def inG (i : Int) (x : Lg) : Bool := x.ins == i
def getG (l : List Lg) (i : Int) : Int := (pickL (inG i) Lg.zero l).qty
theorem vahead_any (x y : Lg) (w : World) : Calls Tryz.prog 90 #[x.val, y.val] w fun e w' => e = .returned (.bool (ahG x y)) ∧ Below w.heap.size w w' := by
  have hB := since_alloc (since_alloc (Below.refl _ w) (.cells x.cells.toArray 151)) (.cells y.cells.toArray 151)
  obtain ⟨ua, uq⟩ := x
  obtain ⟨va, vq⟩ := y
  unfold Lg.val Lg.cells at *
  simp only at hB ⊢
  go_enter Tryz.func90, Tryz.ntmps90
  go_wp2_with fail
  go_ret
  exact ⟨rfl, hB⟩
theorem ent_vahead : Ent Tryz.prog 90 := Ent.of (by kernel_rfl)
theorem tells_vahead (B : Nat) (w : World) : Lg.Tells2 90 #[] ahG B w := fun a b W _ => vahead_any a b W
theorem isG_bad {l : List Lg} {k : Nat} (h : k < l.length) (hb : okG l[k] = false) : isG l = false := by
  unfold isG
  have : l.all okG = false := by
    rw [← Bool.not_eq_true, List.all_eq_true]
    intro ha
    rw [ha _ (List.getElem_mem h)] at hb
    cases hb
  rw [this]; simp
theorem allG {l : List Lg} (h : ∀ j, (hj : j < l.length) → okG l[j] = true) : l.all okG = true := by
  rw [List.all_eq_true]
  intro x hx
  obtain ⟨j, hj, rfl⟩ := List.getElem_of_mem hx
  exact h j hj
theorem okG_ways (v : Lg) : (okG v = false ∧ v.ins < 1) ∨ (okG v = false ∧ ¬ v.ins < 1 ∧ 8 < v.ins) ∨ (okG v = false ∧ ¬ v.ins < 1 ∧ ¬ 8 < v.ins ∧ (v.qty == 0) = true) ∨ (okG v = true ∧ ¬ v.ins < 1 ∧ ¬ 8 < v.ins ∧ (v.qty == 0) = false) := by
  unfold okG
  by_cases h1 : v.ins < 1
  · left; refine ⟨?_, h1⟩; simp; omega
  by_cases h2 : 8 < v.ins
  · right; left; refine ⟨?_, h1, h2⟩; simp; omega
  cases h3 : (v.qty == 0) with
  | true => right; right; left; exact ⟨by simp, h1, h2, rfl⟩
  | false => right; right; right; refine ⟨?_, h1, h2, rfl⟩; simp; omega
theorem vis_any (A : Option Addr) (cap : Nat) (l : List Lg) (w : World) (hl : l.length ≤ 1000000) (hs : Sl w A (rc Lg.cells l)) :
    Calls Tryz.prog 48 #[.slice A l.length cap] w fun e w' => e = .returned (.bool (isG l)) ∧ Below w.heap.size w w' := by
  go_enter Tryz.func48, Tryz.ntmps48
  go_wp2_with fail
  go_loopw [7] (fun i wr => ∃ k : Nat, k ≤ l.length ∧ i = .int .i64 k ∧ (∀ j, (hj : j < l.length) → j < k → okG l[j] = true) ∧ Below w.heap.size w wr) (fun i _ => l.length - (intOf i).toNat)
  case atStart => exact ⟨0, by omega, rfl, fun j hj h => absurd h (by omega), Below.refl _ _⟩
  case round =>
    obtain ⟨k, hk, rfl, hno, hB⟩ := hrel
    by_cases hlt : k < l.length
    · obtain ⟨b, o, rfl, hbw, hg⟩ := (hs.below hB).lg hlt
      have hlk : (k : Int) < (l.length : Int) := by omega
      have hA := since_alloc hB (.cells l[k].cells.toArray 151)
      have HNX : Hid (okG l[k] = true → ∀ j, (hj : j < l.length) → j < k + 1 → okG l[j] = true) := Lib.hid (fun h j hj hjk => by
        rcases Nat.lt_or_ge j k with h' | h'
        · exact hno j hj h'
        · obtain rfl : j = k := by omega
          exact h)
      have HBD : Hid (okG l[k] = false → isG l = false) := Lib.hid (fun h => isG_bad hlt h)
      clear hno
      generalize l[k] = v at *
      rcases okG_ways v with ⟨hq, h1⟩ | ⟨hq, h1, h2⟩ | ⟨hq, h1, h2, h3⟩ | ⟨hq, h1, h2, h3⟩
      · have HE := Lib.hid (HBD.out hq)
        clear HBD HNX hq
        obtain ⟨vi, vq⟩ := v
        obtain ⟨g0, g1⟩ := hg
        unfold Lg.cells at hA
        simp only at *
        go_wp2_with fail
        go_ret
        exact ⟨retB HE.out.symm, hA⟩
      · have HE := Lib.hid (HBD.out hq)
        clear HBD HNX hq
        obtain ⟨vi, vq⟩ := v
        obtain ⟨g0, g1⟩ := hg
        unfold Lg.cells at hA
        simp only at *
        go_wp2_with fail
        go_ret
        exact ⟨retB HE.out.symm, hA⟩
      · have HE := Lib.hid (HBD.out hq)
        clear HBD HNX hq
        obtain ⟨vi, vq⟩ := v
        obtain ⟨g0, g1⟩ := hg
        unfold Lg.cells at hA
        simp only at *
        go_wp2_with fail
        go_ret
        exact ⟨retB HE.out.symm, hA⟩
      · have HN := Lib.hid (HNX.out hq)
        clear HBD HNX hq
        obtain ⟨vi, vq⟩ := v
        obtain ⟨g0, g1⟩ := hg
        unfold Lg.cells at hA
        simp only at *
        go_wp2_with fail
        go_roundw
        case rel => exact ⟨k + 1, by omega, by go_num, HN.out, hA⟩
        case measure => simp [intOf]; omega
    · obtain rfl : k = l.length := by omega
      have ha := allG fun j hj => hno j hj hj
      clear hno
      have HE : Hid (isG l = risingL ahG l) := Lib.hid (by unfold isG; rw [ha]; simp)
      have hs2 := hs.below hB
      clear ha
      go_wp2_with fail
      refine (rising_lg A cap l 90 #[] ahG _ hl hs2 ent_vahead (tells_vahead _ _)).mono ?_
      rintro e w1 ⟨rfl, hb⟩
      have hB1 := since_step hB hb
      go_wp2_with fail
      go_ret
      exact ⟨retB HE.out.symm, hB1⟩
theorem few11_any (A : Option Addr) (cap : Nat) (l : List Lg) (w : World) (hc : l.length ≤ cap) (hcm : cap ≤ maxLen) (hs : Sl w A (rc Lg.cells l)) :
    Calls Tryz.prog 43 #[.slice A l.length cap] w fun e w' => e = .returned (.slice A (l.take 12).length cap) ∧ Below w.heap.size w w' := by
  by_cases h : 12 < l.length
  · have hl : (l.take 12).length = 12 := by simp; omega
    rw [hl]
    have h40 : 12 ≤ cap := by omega
    cases A with
    | none => obtain ⟨b, o, e, _⟩ := hs.lg (k := 0) (by omega); cases e
    | some ad =>
      go_enter Tryz.func43, Tryz.ntmps43
      go_wp2
      go_ret
      exact ⟨rfl, Below.refl _ _⟩
  · have hl : (l.take 12).length = l.length := by simp; omega
    rw [hl]
    go_enter Tryz.func43, Tryz.ntmps43
    go_wp2
    go_ret
    exact ⟨rfl, Below.refl _ _⟩
end
end Go.Proofs.YtmjndpkfhdoljaaGreat
