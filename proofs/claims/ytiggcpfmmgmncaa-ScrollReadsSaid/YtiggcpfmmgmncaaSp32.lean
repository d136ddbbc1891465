import Derived.Test.YtiggcpfmmgmncaaSp31
import Derived.Test.YtiggcpfmmgmncaaSp30
section
namespace Go.Proofs.Ytiggcpfmmgmncaa
open Go.ChangeShapes Go.WideShapes Go.ChangeAt Go.RowKit
set_option linter.unusedVariables false
set_option linter.unusedSimpArgs false

def Chain (S : List (List Nat)) (t : Nat) (era : Int) : Nat → Nat → Int → List (List Nat) → Nat → Int → Prop
  | q, _, life, [], q2, ml => q = q2 ∧ life = ml
  | q, n, life, b :: L, q2, ml => ∃ f, readF S q t = some (b, f) ∧ f.era = era ∧ f.seq = ((n + 1 : Nat) : Int) ∧ life ≤ f.life ∧ Chain S t era (q + f.parts.toNat) (n + 1) f.life L q2 ml
def Stop (S : List (List Nat)) (t : Nat) (era : Int) (q n : Nat) (ml : Int) : Prop := ∀ b f, readF S q t = some (b, f) → ¬ (f.era = era ∧ f.seq = ((n + 1 : Nat) : Int) ∧ ml ≤ f.life)
theorem Chain.scan {S : List (List Nat)} {t : Nat} {era : Int} : ∀ {L : List (List Nat)} {q n : Nat} {life : Int} {q2 : Nat} {ml : Int}, Chain S t era q n life L q2 ml → Stop S t era q2 (n + L.length) ml → scan S t era q n life = (L, q2)
  | [], q, n, life, q2, ml, h, hs => by
    obtain ⟨rfl, rfl⟩ := h
    exact scan_stop hs
  | b :: L, q, n, life, q2, ml, h, hs => by
    obtain ⟨f, h1, h2, h3, h4, h5⟩ := h
    have ih := Chain.scan h5 (by rw [show n + 1 + L.length = n + (b :: L).length by rw [List.length_cons]; omega]; exact hs)
    rw [scan_go h1 ⟨h2, h3, h4⟩, ih]
theorem Chain.snoc {S : List (List Nat)} {t : Nat} {era : Int} {b : List Nat} {f : Fr} : ∀ {L : List (List Nat)} {q n : Nat} {life : Int} {q2 : Nat} {ml : Int}, Chain S t era q n life L q2 ml → readF S q2 t = some (b, f) → f.era = era → f.seq = ((n + L.length + 1 : Nat) : Int) → ml ≤ f.life →
    Chain S t era q n life (L ++ [b]) (q2 + f.parts.toNat) f.life
  | [], q, n, life, q2, ml, h, h1, h2, h3, h4 => by
    obtain ⟨rfl, rfl⟩ := h
    exact ⟨f, h1, h2, h3, h4, rfl, rfl⟩
  | c :: L, q, n, life, q2, ml, h, h1, h2, h3, h4 => by
    obtain ⟨g, g1, g2, g3, g4, g5⟩ := h
    exact ⟨g, g1, g2, g3, g4, Chain.snoc g5 h1 h2 (by rw [h3, List.length_cons]; omega) h4⟩
theorem Chain.le {S : List (List Nat)} {t : Nat} {era : Int} : ∀ {L : List (List Nat)} {q n : Nat} {life : Int} {q2 : Nat} {ml : Int}, Chain S t era q n life L q2 ml → q ≤ q2 ∧ L.length ≤ q2 - q ∧ (q ≤ t → q2 ≤ t) ∧ life ≤ ml
  | [], q, n, life, q2, ml, h => by
    obtain ⟨rfl, rfl⟩ := h
    exact ⟨Nat.le_refl _, Nat.zero_le _, fun h => h, Int.le_refl _⟩
  | b :: L, q, n, life, q2, ml, h => by
    obtain ⟨f, h1, h2, h3, h4, h5⟩ := h
    have hp := readF_parts h1
    obtain ⟨i1, i2, i3, i4⟩ := Chain.le h5
    rw [List.length_cons]
    have := i3 (by omega)
    exact ⟨by omega, by omega, fun _ => by omega, by omega⟩
theorem Chain.low {S : List (List Nat)} {t : Nat} {era M : Int} (hall : ∀ (i : Int) (f : Fr), frD S i = some f → f.life ≤ M) : ∀ {L : List (List Nat)} {q n : Nat} {life : Int} {q2 : Nat} {ml : Int}, Chain S t era q n life L q2 ml → life ≤ M → ml ≤ M
  | [], q, n, life, q2, ml, h, hm => by
    obtain ⟨rfl, rfl⟩ := h
    exact hm
  | b :: L, q, n, life, q2, ml, h, hm => by
    obtain ⟨f, h1, h2, h3, h4, h5⟩ := h
    exact Chain.low hall h5 (hall _ f (readF_iff.1 h1).2.1)
theorem Chain.same {S T : List (List Nat)} (hl : S.length = T.length) {t : Nat} {era : Int} : ∀ {L : List (List Nat)} {q n : Nat} {life : Int} {q2 : Nat} {ml : Int}, Chain S t era q n life L q2 ml → (∀ i, q ≤ i → i < q2 → S[i]? = T[i]?) → Chain T t era q n life L q2 ml
  | [], q, n, life, q2, ml, h, _ => h
  | b :: L, q, n, life, q2, ml, h, hst => by
    obtain ⟨f, h1, h2, h3, h4, h5⟩ := h
    have hp := readF_parts h1
    have hle := Chain.le h5
    refine ⟨f, ?_, h2, h3, h4, Chain.same hl h5 (fun i hi hi2 => hst i (by omega) hi2)⟩
    rw [← h1]
    refine (readF_same hl (readF_iff.1 h1).2.1 fun j hj => frD_eq hl ?_).symm
    have e : ((q : Int) + (j : Int)).toNat = q + j := by omega
    rw [e]
    exact hst _ (by omega) (by omega)
def Torn8 (S T : List (List Nat)) (P n : Nat) (life era seq : Int) (b : List Nat) : Prop := T.length = S.length ∧ ∀ i, T[i]? = S[i]? ∨ (P ≤ i ∧ i < P + n ∧ T[i]? = some (sealed (piece life era seq b n (i - P)).body))
structure J8 (S : List (List Nat)) (f0 t : Nat) (era : Int) (life : Int) (X : List (List Nat)) (q : Nat) (ml : Int) : Prop where
  len : t ≤ S.length
  ft : f0 ≤ t
  pos : 0 ≤ life
  all : ∀ (i : Int) (f : Fr), frD S i = some f → f.life ≤ life
  chain : Chain S t era f0 0 0 X q ml
  stop : Stop S t era q X.length ml
def Low8 (S : List (List Nat)) (life : Int) (q : Nat) : Prop := ∀ (i : Nat) (f : Fr), q ≤ i → frD S i = some f → f.life < life
section
variable {S T : List (List Nat)} {f0 t : Nat} {era life : Int} {X : List (List Nat)} {q : Nat} {ml : Int}
theorem J8.scan (h : J8 S f0 t era life X q ml) : scan S t era f0 0 0 = (X, q) := h.chain.scan (by rw [Nat.zero_add]; exact h.stop)
theorem J8.bd (h : J8 S f0 t era life X q ml) : f0 ≤ q ∧ q ≤ t ∧ X.length ≤ q - f0 ∧ ml ≤ life := by
  obtain ⟨h1, h2, h3, h4⟩ := h.chain.le
  exact ⟨h1, h3 h.ft, h2, h.chain.low h.all h.pos⟩
theorem J8.next (h : J8 S f0 t era life X q ml) {life2 : Int} (h2 : life < life2) : J8 S f0 t era life2 X q ml ∧ Low8 S life2 q := by
  have hpos := h.pos
  exact ⟨⟨h.len, h.ft, by omega, fun i f hf => by have := h.all i f hf; omega, h.chain, h.stop⟩, fun i f _ hf => by have := h.all i f hf; omega⟩
theorem torn8_all (h : J8 S f0 t era life X q ml) {n : Nat} {b : List Nat} {seq : Int} (hb : n ≤ 255) (hok : (piece life era seq b n 0).ok = true) (hqn : q + n ≤ t) (ht : Torn8 S T q n life era seq b) :
    ∀ (i : Int) (f : Fr), frD T i = some f → f.life ≤ life := fun i f hf => by
  obtain ⟨h0, h1, h2, _⟩ := frD_some hf
  obtain ⟨k, rfl⟩ : ∃ k : Nat, i = (k : Int) := ⟨i.toNat, by omega⟩
  rcases ht.2 k with e | ⟨e1, e2, e3⟩
  · rw [frD_eq ht.1 (by simpa using e)] at hf
    exact h.all _ _ hf
  · have hk : k < T.length := by omega
    rw [List.getElem?_eq_getElem hk] at e3
    rw [frD_at hk, Option.some.inj e3, frB_enc ((piece_ok (by omega) (by omega)).trans hok)] at hf
    have := Option.some.inj hf
    rw [← this]
    exact Int.le_refl _
theorem J8.step (h : J8 S f0 t era life X q ml) (hlow : Low8 S life q) {n : Nat} {b : List Nat} (hn : partsN b.length = n) (hb : n ≤ 255) (hok : (piece life era ((X.length + 1 : Nat) : Int) b n 0).ok = true) (hqn : q + n ≤ t)
    (ht : Torn8 S T q n life era ((X.length + 1 : Nat) : Int) b) : J8 T f0 t era life (X ++ [b]) (q + n) life ∨ J8 T f0 t era life X q ml := by
  have hall := torn8_all h hb hok hqn ht
  have hp := partsN_pos b.length
  have hbd := h.bd
  have hlen := h.len
  have htl := ht.1
  have hch : Chain T t era f0 0 0 X q ml := h.chain.same htl.symm (fun i h1 h2 => by
    rcases ht.2 i with e | ⟨e1, _, _⟩
    · exact e.symm
    · omega)
  have hrd := readF_torn (tt := (t : Int)) ht.1 hn hb hok (by omega) (by omega) ht.2 (fun i f h1 _ h2 => hlow i f h1 h2)
  rcases hrd with e | e | e
  · left
    refine ⟨by omega, h.ft, h.pos, hall, ?_, ?_⟩
    · have := Chain.snoc hch e (show (piece life era ((X.length + 1 : Nat) : Int) b n 0).era = era from rfl) (show (piece life era ((X.length + 1 : Nat) : Int) b n 0).seq = ((0 + X.length + 1 : Nat) : Int) by rw [Nat.zero_add]; rfl) hbd.2.2.2
      rw [show (piece life era ((X.length + 1 : Nat) : Int) b n 0).parts.toNat = n by show ((n : Nat) : Int).toNat = n; omega] at this
      exact this
    · intro b2 f2 hr ⟨_, _, h3⟩
      have hf := (readF_iff.1 hr).2.1
      rcases ht.2 (q + n) with e2 | ⟨_, e2, _⟩
      · rw [frD_eq htl (by rw [Int.toNat_natCast]; exact e2)] at hf
        have := hlow (q + n) f2 (by omega) hf
        omega
      · omega
  · right
    exact ⟨by omega, h.ft, h.pos, hall, hch, fun b2 f2 hr => by rw [e] at hr; cases hr⟩
  · right
    exact ⟨by omega, h.ft, h.pos, hall, hch, fun b2 f2 hr => by rw [e] at hr; exact h.stop b2 f2 hr⟩
theorem J8.whole (h : J8 S f0 t era life X q ml) (hlow : Low8 S life q) {n : Nat} {b : List Nat} (hn : partsN b.length = n) (hb : n ≤ 255) (hok : (piece life era ((X.length + 1 : Nat) : Int) b n 0).ok = true) (hqn : q + n ≤ t)
    (ht : Torn8 S T q n life era ((X.length + 1 : Nat) : Int) b) (hw : ∀ j, j < n → T[q + j]? = some (sealed (piece life era ((X.length + 1 : Nat) : Int) b n j).body)) : J8 T f0 t era life (X ++ [b]) (q + n) life ∧ Low8 T life (q + n) := by
  have hlen := h.len
  have htl := ht.1
  have hr := readF_new (S := T) (P := q) (tt := (t : Int)) hn hb hok (by omega) (by omega) hw
  have hbd := h.bd
  have hch : Chain T t era f0 0 0 X q ml := h.chain.same htl.symm (fun i h1 h2 => by
    rcases ht.2 i with e | ⟨e1, _, _⟩
    · exact e.symm
    · omega)
  have hlow2 : Low8 T life (q + n) := fun i f hi hf => by
    rcases ht.2 i with e2 | ⟨_, e2, _⟩
    · rw [frD_eq htl (by rw [Int.toNat_natCast]; exact e2)] at hf
      exact hlow i f (by omega) hf
    · omega
  refine ⟨⟨by omega, h.ft, h.pos, torn8_all h hb hok hqn ht, ?_, ?_⟩, hlow2⟩
  · have := Chain.snoc hch hr (show (piece life era ((X.length + 1 : Nat) : Int) b n 0).era = era from rfl) (show (piece life era ((X.length + 1 : Nat) : Int) b n 0).seq = ((0 + X.length + 1 : Nat) : Int) by rw [Nat.zero_add]; rfl) hbd.2.2.2
    rw [show (piece life era ((X.length + 1 : Nat) : Int) b n 0).parts.toNat = n by show ((n : Nat) : Int).toNat = n; omega] at this
    exact this
  · intro b2 f2 hr2 ⟨_, _, h3⟩
    have := hlow2 (q + n) f2 (Nat.le_refl _) (readF_iff.1 hr2).2.1
    omega
end
theorem write_torn8 {d : Dv} {P : Nat} {life era seq : Int} {b : List Nat} (hon : d.on = true) (hcz : (cutF life era seq b).2 = 0) (hP : P + (cutF life era seq b).1.length ≤ d.S.length) :
    ∃ n, partsN b.length = n ∧ n ≤ 255 ∧ (piece life era seq b n 0).ok = true ∧ (cutF life era seq b).1.length = n ∧ Torn8 d.S (d.write (P : Int) (cutF life era seq b).1).1.S P n life era seq b ∧
      (d.torn = false → ∀ j, j < n → (d.write (P : Int) (cutF life era seq b).1).1.S[P + j]? = some (sealed (piece life era seq b n j).body)) := by
  rw [Dv.write_fit hon (cut_fits hcz hP) (cut_pos hcz)]
  obtain ⟨h1, h2, h3⟩ := cut_good hcz
  rw [h1] at hP ⊢
  simp only at hP ⊢
  rw [cells_len] at hP ⊢
  obtain ⟨n, hn⟩ : ∃ n, partsN b.length = n := ⟨_, rfl⟩
  rw [hn] at hP h2 h3 ⊢
  rw [Int.toNat_natCast]
  refine ⟨n, rfl, h2, h3, rfl, ⟨putK_len n, fun i => ?_⟩, fun ht j hj => ?_⟩
  · rcases putK_or (torn := d.torn) (keep := d.keep) (p := P) (cs := cellsF life era seq b n n) (S := d.S) n (by rw [cells_len]; exact Nat.le_refl _) i with e | ⟨e1, e2, e3⟩
    · exact .inl e
    · refine .inr ⟨e1, e2, ?_⟩
      rw [e3 (by omega)]
      exact cells_at (by omega)
  · rw [ht, putK_in n (by rw [cells_len]; exact Nat.le_refl _) (P + j) (by omega) (by omega) (by omega), show P + j - P = j by omega]
    exact cells_at hj
theorem newest_le {S : List (List Nat)} {M : Int} (hM : 0 ≤ M) (h : ∀ (i : Int) (f : Fr), frD S i = some f → f.life ≤ M) (f : Nat) : ∀ k, newestN S f k ≤ M
  | 0 => hM
  | k + 1 => by
    have ih := newest_le hM h f k
    unfold newestN
    split
    · exact ih
    · rename_i x hx
      have := h _ _ hx
      split <;> omega
theorem j8_new {n f0 t : Nat} {era : Int} (hft : f0 ≤ t) (ht : t ≤ n) {life : Int} (hl : 0 ≤ life) : J8 (Dv.new n).S f0 t era life [] f0 0 :=
  ⟨by simpa [Dv.new] using ht, hft, hl, fun i f h => (by rw [frD_new] at h; cases h), ⟨rfl, rfl⟩, fun b f h => (by rw [readF_no (frD_new n _)] at h; cases h)⟩
end Go.Proofs.Ytiggcpfmmgmncaa
end
section
namespace Go.Proofs.Ytiggcpfmmgmncaa
open Go.ChangeShapes Go.WideShapes Go.ChangeAt Go.RowKit
set_option linter.unusedVariables false
set_option linter.unusedSimpArgs false

theorem few8_any (A : Option Addr) (n cap : Nat) (w : World) (hn : n ≤ 9223372036854775807) (hcap : n ≤ cap) (hcap2 : cap ≤ 9223372036854775807) :
    Calls Try.prog 21 #[.slice A n cap] w fun e w' => e = .returned (.slice A (min n 20) cap) ∧ Below w.heap.size w w' := by
  by_cases h : 20 < n
  · have e : min n 20 = 20 := by omega
    rw [e]
    clear e
    go_enter Try.func21, Try.ntmps21
    go_wp2
    go_ret
    exact ⟨rfl, Below.refl _ _⟩
  · have e : min n 20 = n := by omega
    rw [e]
    clear e
    go_enter Try.func21, Try.ntmps21
    go_wp2
    go_ret
    exact ⟨rfl, Below.refl _ _⟩
structure Do9 where
  kind : Int
  n : Int
  p : Int
  each : Int
  life : Int
  era : Int
  BA : Option Addr
  bc : Nat
  B : List Nat
  KA : Option Addr
  kc : Nat
  K : List Nt
def Do9.cells (x : Do9) : List Value := [.int .i64 x.kind, .int .i64 x.n, .int .i64 x.p, .int .i64 x.each, .int .i64 x.life, .int .i64 x.era, .slice x.BA x.B.length x.bc, .slice x.KA x.K.length x.kc]
theorem Do9.len (x : Do9) : x.cells.length = 8 := rfl
structure Do9.Ok (w : World) (x : Do9) : Prop where
  blc : x.B.length ≤ x.bc
  bcm : x.bc ≤ maxLen
  bs : Sl w x.BA (by8 x.B)
  bo : Oct x.B
  klc : x.K.length ≤ x.kc
  kcm : x.kc ≤ maxLen
  ks : Sl w x.KA (rc Nt.cells x.K)
theorem rd_nts {w : World} {A : Option Addr} {n c : Nat} (h : Rd w (.sl (.int .i64)) [.slice A n c]) : ∃ l : List Nt, l.length = n ∧ n ≤ c ∧ c ≤ maxLen ∧ Sl w A (rc Nt.cells l) := by
  obtain ⟨l, h1, h2, h3, h4, _⟩ := rd_rowsP (f := Nt.cells) (p := fun _ => True) (fun r => rd_nt') h
  exact ⟨l, h1, h2, h3, h4⟩
theorem Sl.lt {w : World} {A : Option Addr} {xs : List Value} (h : Sl w A xs) : ∀ k o, A = some ⟨k, o, none⟩ → xs ≠ [] → k < w.heap.size := fun k o hA hne => by
  obtain ⟨b1, o1, e1, hc⟩ := h hne
  rw [hA] at e1
  injection e1 with e1
  injection e1 with e1 _
  subst e1
  cases hx : xs with
  | nil => exact absurd hx hne
  | cons u us => exact World.block_lt_of_cell? _ _ (hc 0 u (by rw [hx]; rfl))
end Go.Proofs.Ytiggcpfmmgmncaa
end
