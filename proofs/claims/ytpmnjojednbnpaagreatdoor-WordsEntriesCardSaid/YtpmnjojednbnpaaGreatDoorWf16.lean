import Derived.Test.YtpmnjojednbnpaaGreatDoorWf15
import Derived.IntWalk
import Derived.Laws.Bits64
import Derived.Laws.BitsAllLaws
import Derived.Laws.Externs
import Derived.Deep.RegionWith
import Derived.Test.YtpmnjojednbnpaaGreatDoorWf01
set_option maxHeartbeats 16000000
set_option maxRecDepth 100000
set_option linter.unusedVariables false
set_option linter.unusedSimpArgs false
namespace Go.Proofs.YtpmnjojednbnpaaGreatDoor
open Go.ChangeShapes Go.WideShapes Go.ChangeAt Go.RowKit
section
def numD (l : List UInt8) : Option Int := if (valP l).2 = false ∧ Lib.itoa (valP l).1 = l then some (valP l).1 else none
theorem numD_iff {l : List UInt8} {n : Int} : numD l = some n ↔ In64p n ∧ Lib.itoa n = l := by
 constructor
 ·intro h;unfold numD at h
  split at h
  ·rename_i hc
   injection h with h;subst h;exact ⟨valP_in l, hc.2⟩
  ·cases h
 ·rintro ⟨h1, rfl⟩;unfold numD;rw [valP_itoa h1];simp
theorem numD_itoa {n : Int} (h : In64p n) : numD (Lib.itoa n) = some n := numD_iff.2 ⟨h, rfl⟩
def cut1 : List UInt8 → Option (List UInt8 × List UInt8)
  | [] => none
  | b :: l => if b = 46 then some ([], l) else (cut1 l).map fun p => (b :: p.1, p.2)
theorem cut1_some : ∀ {l a b : List UInt8}, cut1 l = some (a, b) → l = a ++ 46 :: b ∧ (46 : UInt8) ∉ a
 | [], a, b, h => by cases h
 | c :: l, a, b, h => by
  unfold cut1 at h
  split at h
  ·rename_i hc
   injection h with h;injection h with h1 h2;subst h1; subst h2;exact ⟨by rw [hc]; rfl, by simp⟩
  ·rename_i hc
   cases hl : cut1 l with
   | none => rw [hl] at h; cases h
   | some p =>
    rw [hl] at h;injection h with h;injection h with h1 h2;subst h1; subst h2;obtain ⟨e1, e2⟩ := cut1_some (a := p.1) (b := p.2) hl;refine ⟨by rw [List.cons_append, ← e1], fun hm => ?_⟩
    rcases List.mem_cons.1 hm with hm | hm
    ·exact hc hm.symm
    ·exact e2 hm
theorem cut1_free : ∀ {a b : List UInt8}, (46 : UInt8) ∉ a → cut1 (a ++ 46 :: b) = some (a, b)
 | [], b, _ => by simp [cut1]
 | c :: a, b, h => by
  have hc : c ≠ 46 := fun e => h (by simp [e]);rw [List.cons_append, cut1, if_neg hc, cut1_free (fun e => h (by simp [e]))];rfl
def unitD (l : List UInt8) : Option (Int × Int) :=
  match cut1 l with
  | none => none
  | some p => match numD p.1, numD p.2 with
    | some x, some y => some (x, y)
    | _, _ => none
theorem unitD_some {l : List UInt8} {x y : Int} (h : unitD l = some (x, y)) : In64p x ∧ In64p y ∧ l = unitB x y := by
 unfold unitD at h
 cases hc : cut1 l with
 | none => rw [hc] at h; cases h
 | some p =>
  obtain ⟨a, b⟩ := p;rw [hc] at h;simp only at h
  cases ha : numD a with
  | none => rw [ha] at h; cases h
  | some x1 =>
   cases hb : numD b with
   | none => rw [ha, hb] at h; cases h
   | some y1 =>
    rw [ha, hb] at h;injection h with h;injection h with h1 h2;subst h1; subst h2;obtain ⟨i1, e1⟩ := numD_iff.1 ha;obtain ⟨i2, e2⟩ := numD_iff.1 hb;exact ⟨i1, i2, by rw [(cut1_some hc).1, ← e1, ← e2]; rfl⟩
theorem unitD_unit {x y : Int} (h1 : In64p x) (h2 : In64p y) : unitD (unitB x y) = some (x, y) := by
 unfold unitD unitB;rw [cut1_free (itoa_free x (.inr rfl))];simp only;rw [numD_itoa h1, numD_itoa h2]
theorem join_two (a b : List UInt8) : Lib.join [a, b] [46] = a ++ 46 :: b := by
 rw [Lib.join_cons]; simp [Lib.joinTail]
def wordD (k : Nat) (w : List UInt8) : Option (List Int) := if k = 2 then (unitD w).map fun p => [p.1, p.2] else (numD w).map fun n => [n]
theorem wordD_some {k : Nat} {w : List UInt8} {vs : List Int} (hk : k = 1 ∨ k = 2) (h : wordD k w = some vs) : vs.length = k ∧ (∀ x ∈ vs, In64p x) ∧ w = Lib.join (vs.map Lib.itoa) [46] := by
 unfold wordD at h
 rcases hk with rfl | rfl
 ·rw [if_neg (by decide)] at h
  cases hn : numD w with
  | none => rw [hn] at h; cases h
  | some n =>
   rw [hn] at h;injection h with h;subst h;obtain ⟨i1, e1⟩ := numD_iff.1 hn;exact ⟨rfl, fun x hx => by rw [List.mem_singleton.1 hx]; exact i1, by rw [← e1, List.map_cons, List.map_nil, Lib.join_one]⟩
 ·rw [if_pos rfl] at h
  cases hn : unitD w with
  | none => rw [hn] at h; cases h
  | some p =>
   rw [hn] at h;injection h with h;subst h;obtain ⟨i1, i2, e1⟩ := unitD_some (x := p.1) (y := p.2) hn;refine ⟨rfl, fun x hx => ?_, by rw [e1, List.map_cons, List.map_cons, List.map_nil, join_two]; rfl⟩
   rcases List.mem_cons.1 hx with rfl | hx
   ·exact i1
   ·rw [List.mem_singleton.1 hx]; exact i2
theorem wordD_enc : ∀ {vs : List Int}, (vs.length = 1 ∨ vs.length = 2) → (∀ x ∈ vs, In64p x) → wordD vs.length (Lib.join (vs.map Lib.itoa) [46]) = some vs
 | [], h, _ => by simp at h
 | [a], _, h => by
  show wordD 1 _ = _
  unfold wordD;rw [if_neg (by decide), List.map_cons, List.map_nil, Lib.join_one, numD_itoa (h a (by simp))];rfl
 | [a, b], _, h => by
  show wordD 2 _ = _
  unfold wordD;rw [if_pos rfl, List.map_cons, List.map_cons, List.map_nil, join_two, show Lib.itoa a ++ 46 :: Lib.itoa b = unitB a b from rfl, unitD_unit (h a (by simp)) (h b (by simp))];rfl
 | a :: b :: c :: r, h, _ => by simp only [List.length_cons] at h; omega
def numsD : List (List UInt8) → Option (List Int)
  | [] => some []
  | w :: r => match numD w, numsD r with
    | some n, some l => some (n :: l)
    | _, _ => none
theorem numsD_some : ∀ {P : List (List UInt8)} {ns : List Int}, numsD P = some ns → (∀ x ∈ ns, In64p x) ∧ P = ns.map Lib.itoa
 | [], ns, h => by
  injection h with h;subst h;exact ⟨(fun x hx => by cases hx), rfl⟩
 | w :: r, ns, h => by
  unfold numsD at h
  cases hw : numD w with
  | none => rw [hw] at h; cases h
  | some n =>
   cases hr : numsD r with
   | none => rw [hw, hr] at h; cases h
   | some l =>
    rw [hw, hr] at h;injection h with h;subst h;obtain ⟨i1, e1⟩ := numD_iff.1 hw;obtain ⟨i2, e2⟩ := numsD_some hr;refine ⟨fun x hx => ?_, by rw [List.map_cons, e1, ← e2]⟩
    rcases List.mem_cons.1 hx with rfl | hx
    ·exact i1
    ·exact i2 x hx
theorem numsD_enc : ∀ {ns : List Int}, (∀ x ∈ ns, In64p x) → numsD (ns.map Lib.itoa) = some ns
 | [], _ => rfl
 | n :: r, h => by
  rw [List.map_cons, numsD, numD_itoa (h n (by simp)), numsD_enc fun x hx => h x (by simp [hx])]
theorem valsP_itoa {ns : List Int} (h : ∀ x ∈ ns, In64p x) : valsP (ns.map Lib.itoa) = ns ∧ badsP (ns.map Lib.itoa) = false := by
 unfold valsP badsP
 induction ns with
 | nil => exact ⟨rfl, rfl⟩
 | cons n r ih =>
  obtain ⟨e1, e2⟩ := ih fun x hx => h x (by simp [hx]);rw [List.map_cons, List.map_cons, List.any_cons, e1, e2, valP_itoa (h n (by simp))];exact ⟨rfl, rfl⟩
-- commands, as the document reads them
structure Dz where
  z : List Int
  nums : List Int
  P : List (List UInt8)
def putV (s : List (Nat × Int)) (vs : List Int) (z : List Int) : List Int := (s.zip vs).foldl (fun z p => z.set p.1.1 p.2) z
def docS (f : Nat) (d : Dz) : Option Dz :=
  if f = 78 then (numsD d.P).map fun ns => ⟨d.z, d.nums ++ ns, []⟩
  else match d.P with
    | [] => none
    | w :: r => (wordD (slotL f).length w).map fun vs => ⟨putV (slotL f) vs d.z, d.nums, r⟩
def docF : List Nat → Dz → Option Dz
  | [], d => some d
  | f :: r, d => (docS f d).bind (docF r)
def docC (l : List UInt8) : Option Dz :=
  match splD 32 l with
  | [] => none
  | x :: r => match r with
    | [] => none
    | y :: r => match numD y with
      | none => none
      | some by_ => match docF (fldL (opB x)) ⟨[opB x, by_, 0, 0, 0, 0, 0, 0, 0, 0, 0, 0, 0], [], r⟩ with
        | none => none
        | some d => if d.P = [] ∧ isZ d.z d.nums.length = true then some d else none
def OkV : List Nat → List (List Int) → Prop
  | [], [] => True
  | f :: L, vs :: r => (f ≠ 78 → vs.length = (slotL f).length) ∧ (∀ x ∈ vs, In64p x) ∧ OkV L r
  | _, _ => False
def encW (f : Nat) (vs : List Int) : List (List UInt8) := if f = 78 then vs.map Lib.itoa else [Lib.join (vs.map Lib.itoa) [46]]
def encL : List Nat → List (List Int) → List (List UInt8)
  | f :: L, vs :: r => encW f vs ++ encL L r
  | _, _ => []
def putZ : List Nat → List (List Int) → List Int → List Int
  | f :: L, vs :: r, z => putZ L r (if f = 78 then z else putV (slotL f) vs z)
  | _, _, z => z
def numL : List Nat → List (List Int) → List Int
  | f :: L, vs :: r => (if f = 78 then vs else []) ++ numL L r
  | _, _ => []
def lastN : List Nat → Bool
  | [] => true
  | [_] => true
  | f :: g :: r => f != 78 && lastN (g :: r)
def okL (L : List Nat) : Prop := ∀ f ∈ L, f ≠ 78 → (slotL f).length = 1 ∨ (slotL f).length = 2
theorem fldL_ok (op : Int) : okL (fldL op) ∧ lastN (fldL op) = true := by
 refine ⟨fun f hf hn => ?_, ?_⟩
 ·rcases fldL_memW op f hf with rfl | rfl | rfl | rfl | rfl | rfl | rfl | rfl | rfl | rfl
  all_goals first | exact .inl rfl | exact .inr rfl | exact absurd rfl hn
 ·have h := fldL_cases op
  rcases h with h | h | h | h | h | h | h | h | h | h | h | h | h | h | h <;> rw [h] <;> decide
theorem docF_some : ∀ (L : List Nat) (d d' : Dz), okL L → docF L d = some d' → ∃ vss, OkV L vss ∧ d.P = encL L vss ++ d'.P ∧ d'.z = putZ L vss d.z ∧ d'.nums = d.nums ++ numL L vss
 | [], d, d', _, h => by
  injection h with h;subst h;exact ⟨[], trivial, rfl, rfl, by simp [numL]⟩
 | f :: L, d, d', hL, h => by
  unfold docF at h
  cases hs : docS f d with
  | none => rw [hs] at h; cases h
  | some d1 =>
   rw [hs] at h;obtain ⟨vss, h1, h2, h3, h4⟩ := docF_some L d1 d' (fun g hg => hL g (by simp [hg])) h;unfold docS at hs
   split at hs
   ·rename_i hf
    cases hn : numsD d.P with
    | none => rw [hn] at hs; cases hs
    | some ns =>
     rw [hn] at hs;injection hs with hs;subst hs;obtain ⟨i1, e1⟩ := numsD_some hn;simp only at h2 h3 h4;have he := List.append_eq_nil_iff.1 h2.symm
     refine ⟨ns :: vss, ⟨fun hn => absurd hf hn, i1, h1⟩, ?_, ?_, ?_⟩
     ·rw [encL, encW, if_pos hf, he.1, he.2, e1]; simp
     ·rw [putZ, if_pos hf, h3]
     ·rw [numL, if_pos hf, h4, List.append_assoc]
   ·rename_i hf
    obtain ⟨dz, dn, dP⟩ := d
    cases dP with
    | nil => cases hs
    | cons w r =>
     simp only at hs
     cases hn : wordD (slotL f).length w with
     | none => rw [hn] at hs; cases hs
     | some vs =>
      rw [hn] at hs;injection hs with hs;subst hs;obtain ⟨e0, i1, e1⟩ := wordD_some (hL f (by simp) hf) hn;simp only at h2 h3 h4
      refine ⟨vs :: vss, ⟨fun _ => e0, i1, h1⟩, ?_, ?_, ?_⟩
      ·rw [encL, encW, if_neg hf, ← e1, h2]; rfl
      ·rw [putZ, if_neg hf, h3]
      ·rw [numL, if_neg hf, h4]; rfl
theorem docF_enc : ∀ (L : List Nat) (vss : List (List Int)) (z nums : List Int), okL L → lastN L = true → OkV L vss → docF L ⟨z, nums, encL L vss⟩ = some ⟨putZ L vss z, nums ++ numL L vss, []⟩
 | [], [], z, nums, _, _, _ => by simp [docF, encL, putZ, numL]
 | [], vs :: r, _, _, _, _, h => by cases h
 | f :: L, [], _, _, _, _, h => by cases h
 | f :: L, vs :: r, z, nums, hL, hN, ⟨h1, h2, h3⟩ => by
  have hL2 : okL L := fun g hg => hL g (by simp [hg])
  by_cases hf : f = 78
  ·have hLn : L = [] := by
    cases L with
    | nil => rfl
    | cons g t => rw [hf] at hN; simp [lastN] at hN
   subst hLn
   cases r with
   | cons _ _ => cases h3
   | nil =>
    rw [docF, docS, if_pos hf];simp only [encL, encW, if_pos hf, List.append_nil, numsD_enc h2, putZ, numL, Option.map_some, Option.bind_some, docF]
  ·have hN2 : lastN L = true := by
    cases L with
    | nil => rfl
    | cons g t => simp only [lastN, Bool.and_eq_true] at hN; exact hN.2
   have hk := h1 hf;have hw := wordD_enc (vs := vs) (by rw [hk]; exact hL f (by simp) hf) h2;rw [hk] at hw;rw [docF, docS, if_neg hf, encL, encW, if_neg hf];simp only [List.cons_append, List.nil_append, hw, Option.map_some, Option.bind_some];rw [docF_enc L r _ _ hL2 hN2 h3, putZ, if_neg hf, numL, if_neg hf];rfl
theorem putS_foldl : ∀ (s : List (Nat × Int)) (vs : List Int) (z : List Int), (∀ x ∈ vs, In64p x) → (s.zip (vs.map Lib.itoa)).foldl putS (z, false) = (putV s vs z, false)
 | [], _, z, _ => rfl
 | _ :: _, [], z, _ => rfl
 | p :: s, v :: vs, z, h => by
  rw [List.map_cons, List.zip_cons_cons, List.foldl_cons]
  have e : putS (z, false) (p, Lib.itoa v) = (z.set p.1 v, false) := by
   unfold putS;simp only;rw [valP_itoa (h v (by simp))];rfl
  rw [e, putS_foldl s vs _ fun x hx => h x (by simp [hx])];rfl
theorem stepZ_doc : ∀ (L : List Nat) (d d' : Dz), okL L → lastN L = true → d.nums = [] → docF L d = some d' → L.foldl stepZ ⟨d.z, d.nums, d.P, false⟩ = ⟨d'.z, d'.nums, d'.P, false⟩
 | [], d, d', _, _, _, h => by
  injection h with h;subst h;rfl
 | f :: L, d, d', hL, hN, h0, h => by
  unfold docF at h
  cases hs : docS f d with
  | none => rw [hs] at h; cases h
  | some d1 =>
   rw [hs] at h;have h : docF L d1 = some d' := h;unfold docS at hs
   split at hs
   ·rename_i hf
    cases hn : numsD d.P with
    | none => rw [hn] at hs; cases hs
    | some ns =>
     rw [hn] at hs;injection hs with hs;subst hs;obtain ⟨i1, e1⟩ := numsD_some hn
     have hLn : L = [] := by
      cases L with
      | nil => rfl
      | cons g t => rw [hf] at hN; simp [lastN] at hN
     subst hLn;injection h with h;subst h;rw [List.foldl_cons, List.foldl_nil];have hv := valsP_itoa i1;unfold stepZ fillP;simp only [if_pos hf];rw [e1, hv.1, hv.2, h0];rfl
   ·rename_i hf
    obtain ⟨dz, dn, dP⟩ := d
    cases dP with
    | nil => cases hs
    | cons w r =>
     simp only at hs
     cases hn : wordD (slotL f).length w with
     | none => rw [hn] at hs; cases hs
     | some vs =>
      rw [hn] at hs;injection hs with hs;subst hs;obtain ⟨e0, i1, e1⟩ := wordD_some (hL f (by simp) hf) hn
      have hsp : splD 46 w = vs.map Lib.itoa := by
       rw [e1]
       refine splD_join 46 _ (fun e => ?_) fun x hx => ?_
       ·have := congrArg List.length e;rw [List.length_map, e0] at this;have := hL f (by simp) hf
        simp_all
       ·obtain ⟨n, _, rfl⟩ := List.mem_map.1 hx;exact itoa_free n (.inr rfl)
      have hN2 : lastN L = true := by
       cases L with
       | nil => rfl
       | cons g t => simp only [lastN, Bool.and_eq_true] at hN; exact hN.2
      have ih := stepZ_doc L ⟨putV (slotL f) vs dz, dn, r⟩ d' (fun g hg => hL g (by simp [hg])) hN2 h0 h
      have hf2 : fillP f (w :: r) false dz = (putV (slotL f) vs dz, r, false) := by
       have hw : wordP (w :: r) false = (w, r, false) := rfl;unfold fillP;rw [if_neg hf, hw];simp only;rw [if_pos (by rw [hsp, List.length_map, e0]), hsp, putS_foldl _ _ _ i1]
      rw [List.foldl_cons, ← ih]
      congr 1
      unfold stepZ;simp only [hf2, if_neg hf]
end
end Go.Proofs.YtpmnjojednbnpaaGreatDoor
section
namespace Go.Proofs.YtpmnjojednbnpaaGreatDoor

def hiN (x : Int) : Int := IntKind.i64.wrap (x / 18446744073709551616)
def loN (x : Int) : Int := x % 18446744073709551616
def topN (x : Int) : Int := IntKind.i64.wrap (x / 340282366920938463463374607431768211456)
def In128 (x : Int) : Prop := -170141183460469231731687303715884105728 ≤ x ∧ x ≤ 170141183460469231731687303715884105727
def In64 (x : Int) : Prop := -9223372036854775808 ≤ x ∧ x ≤ 9223372036854775807
instance (x : Int) : Decidable (In128 x) := by unfold In128; infer_instance
instance (x : Int) : Decidable (In64 x) := by unfold In64; infer_instance
end Go.Proofs.YtpmnjojednbnpaaGreatDoor
end
namespace Go.Proofs.YtpmnjojednbnpaaGreatDoor
open Go.ChangeShapes Go.WideShapes Go.ChangeAt Go.RowKit
section
def T3 (w : World) (g : Nat) (x : Int) : Prop :=
  g < w.heap.size ∧ w.cell? ⟨g, 0, none⟩ = some (.int .i64 (hiN x)) ∧ w.cell? ⟨g, 1, none⟩ = some (.int .u64 (loN x)) ∧ w.cell? ⟨g, 2, none⟩ = some (.int .i64 (topN x)) ∧
  w.frozen? ⟨g, 0, none⟩ = false ∧ w.frozen? ⟨g, 1, none⟩ = false ∧ w.frozen? ⟨g, 2, none⟩ = false
def T2 (w : World) (g : Nat) (a b : Int) : Prop :=
  g < w.heap.size ∧ w.cell? ⟨g, 0, none⟩ = some (.int .i64 a) ∧ w.cell? ⟨g, 1, none⟩ = some (.int .u64 b) ∧ w.frozen? ⟨g, 0, none⟩ = false ∧ w.frozen? ⟨g, 1, none⟩ = false
section
variable {w w' : World} {g : Nat} {x a b : Int}
theorem T3.below (h : T3 w g x) (hb : Below w.heap.size w w') : T3 w' g x := by
 obtain ⟨h0, h1, h2, h3, f1, f2, f3⟩ := h
 exact ⟨Nat.lt_of_lt_of_le h0 hb.size, (hb.cell (p := ⟨g, 0, none⟩) h0).trans h1, (hb.cell (p := ⟨g, 1, none⟩) h0).trans h2, (hb.cell (p := ⟨g, 2, none⟩) h0).trans h3,
  (hb.frozen (p := ⟨g, 0, none⟩) h0).trans f1, (hb.frozen (p := ⟨g, 1, none⟩) h0).trans f2, (hb.frozen (p := ⟨g, 2, none⟩) h0).trans f3⟩
theorem T2.below (h : T2 w g a b) (hb : Below w.heap.size w w') : T2 w' g a b := by
 obtain ⟨h0, h1, h2, f1, f2⟩ := h;exact ⟨Nat.lt_of_lt_of_le h0 hb.size, (hb.cell (p := ⟨g, 0, none⟩) h0).trans h1, (hb.cell (p := ⟨g, 1, none⟩) h0).trans h2, (hb.frozen (p := ⟨g, 0, none⟩) h0).trans f1, (hb.frozen (p := ⟨g, 1, none⟩) h0).trans f2⟩
theorem T2.far (h : T2 w g a b) {p : Addr} (hp : p.block ≠ g) (v : Value) : T2 (w.setCell p v) g a b := by
 obtain ⟨h0, h1, h2, f1, f2⟩ := h;have k : ∀ o, (w.setCell p v).cell? ⟨g, o, none⟩ = w.cell? ⟨g, o, none⟩ := fun o => World.cell?_setCell_other w _ _ _ (by rintro rfl; exact hp rfl);exact ⟨by simpa using h0, (k 0).trans h1, (k 1).trans h2, by simpa using f1, by simpa using f2⟩
theorem T2.new (w : World) (a b : Int) (t : TypeId) : T2 (w.alloc (.cells #[.int .i64 a, .int .u64 b] t)) w.heap.size a b := by
 refine ⟨by simp, ?_, ?_, ?_, ?_⟩ <;> simp
theorem T2.alloc (h : T2 w g a b) (o : Obj) : T2 (w.alloc o) g a b := h.below ((Below.refl _ _).alloc (Nat.le_refl _) o)
theorem T3.alloc (h : T3 w g x) (o : Obj) : T3 (w.alloc o) g x := h.below ((Below.refl _ _).alloc (Nat.le_refl _) o)
theorem T3.new (w : World) (x : Int) (t : TypeId) : T3 (w.alloc (.cells #[.int .i64 (hiN x), .int .u64 (loN x), .int .i64 (topN x)] t)) w.heap.size x := by
 refine ⟨by simp, ?_, ?_, ?_, ?_, ?_, ?_⟩ <;> simp
theorem T3.drew (h : T3 w g x) : T3 w.drew g x := h
theorem T2.drew (h : T2 w g a b) : T2 w.drew g a b := h
end
end
section
def bval : List Nat → Nat
  | [] => 0
  | b :: l => b + 2 * bval l
def Bin (l : List Nat) : Prop := ∀ b ∈ l, b ≤ 1
def Norm (l : List Nat) : Prop := Bin l ∧ ∀ k, (h : k < l.length) → l.length = k + 1 → l[k] = 1
theorem Bin.nil : Bin [] := fun b h => by cases h
theorem Norm.nil : Norm [] := ⟨Bin.nil, fun k h => by simp at h⟩
theorem Bin.take {l : List Nat} (h : Bin l) (n : Nat) : Bin (l.take n) := fun b hb => h b (List.mem_of_mem_take hb)
theorem Bin.app {a b : List Nat} (h : Bin a) (k : Bin b) : Bin (a ++ b) := fun x hx => by
 rcases List.mem_append.1 hx with h' | h'
 ·exact h x h'
 ·exact k x h'
theorem Bin.snoc {a : List Nat} (h : Bin a) {x : Nat} (hx : x ≤ 1) : Bin (a ++ [x]) := h.app fun b hb => by simp at hb; omega
theorem Bin.at_ {l : List Nat} (h : Bin l) {k : Nat} (hk : k < l.length) : l[k] ≤ 1 := h _ (List.getElem_mem hk)
theorem Bin.oct {l : List Nat} (h : Bin l) : Oct l := fun x hx => by have := h x hx; omega
theorem bval_append (a b : List Nat) : bval (a ++ b) = bval a + 2 ^ a.length * bval b := by
 induction a with
 | nil => simp [bval]
 | cons x a ih =>
  simp only [List.cons_append, bval, ih, List.length_cons, Nat.pow_succ];rw [Nat.mul_add, Nat.mul_comm (2 ^ a.length) 2, Nat.mul_assoc];omega
theorem bval_snoc (a : List Nat) (x : Nat) : bval (a ++ [x]) = bval a + 2 ^ a.length * x := by
 rw [bval_append]; simp [bval]
theorem bval_take (l : List Nat) (k : Nat) (h : k < l.length) : bval (l.take (k + 1)) = bval (l.take k) + 2 ^ k * l[k] := by
 rw [take_snoc l k h, bval_snoc, List.length_take, Nat.min_eq_left (by omega)]
theorem bval_lt {l : List Nat} (h : Bin l) : bval l < 2 ^ l.length := by
 induction l with
 | nil => simp [bval]
 | cons x l ih =>
  have := ih fun b hb => h b (by simp [hb]);have h1 := h x (by simp);simp only [bval, List.length_cons, Nat.pow_succ];omega
theorem bval_drop (l : List Nat) (k : Nat) (hk : k ≤ l.length) : bval l = bval (l.take k) + 2 ^ k * bval (l.drop k) := by
 conv => lhs; rw [← List.take_append_drop k l]
 rw [bval_append, List.length_take, Nat.min_eq_left hk]
theorem Norm.ge {l : List Nat} (h : Norm l) {k : Nat} (hk : l.length = k + 1) : 2 ^ k ≤ bval l := by
 have h1 := bval_take l k (by omega);rw [List.take_of_length_le (by omega), h.2 k (by omega) hk] at h1;omega
theorem norm_of_ge {l : List Nat} (h : Bin l) {k : Nat} (hk : l.length = k + 1) (hv : 2 ^ k ≤ bval l) : Norm l := by
 refine ⟨h, fun j hj hl => ?_⟩;obtain rfl : j = k := by omega
 have h1 := bval_take l j (by omega);rw [List.take_of_length_le (by omega)] at h1;have h2 := bval_lt (h.take j);rw [List.length_take, Nat.min_eq_left (by omega)] at h2;have h3 := h.at_ hj
 rcases Nat.lt_or_ge 0 l[j] with h4 | h4
 ·omega
 ·have : l[j] = 0 := by omega
  rw [this] at h1;omega
theorem Norm.zero {l : List Nat} (h : Norm l) : bval l = 0 ↔ l = [] := by
 constructor
 ·intro e
  cases hl : l.length with
  | zero => exact List.eq_nil_of_length_eq_zero hl
  | succ k => have := h.ge hl; have := Nat.pow_pos (n := k) (show 0 < 2 by omega); omega
 ·rintro rfl; rfl
theorem Norm.len_le {l : List Nat} (h : Norm l) {n : Nat} (hv : bval l < 2 ^ n) : l.length ≤ n := by
 cases hl : l.length with
 | zero => omega
 | succ k =>
  have h1 := h.ge hl;refine Decidable.byContradiction fun hn => ?_;have : 2 ^ n ≤ 2 ^ k := Nat.pow_le_pow_right (by omega) (by omega);omega
theorem Norm.len_iff {l : List Nat} (h : Norm l) (n : Nat) : l.length ≤ n ↔ bval l < 2 ^ n := by
 refine ⟨fun hl => ?_, h.len_le⟩;have := bval_lt h.1;have : 2 ^ l.length ≤ 2 ^ n := Nat.pow_le_pow_right (by omega) hl;omega
theorem Norm.lt_len {a b : List Nat} (ha : Norm a) (hb : Norm b) (h : a.length < b.length) : bval a < bval b := by
 obtain ⟨k, hk⟩ : ∃ k, b.length = k + 1 := ⟨b.length - 1, by omega⟩;have h1 := hb.ge hk;have h2 := bval_lt ha.1;have : 2 ^ a.length ≤ 2 ^ k := Nat.pow_le_pow_right (by omega) (by omega);omega
theorem bval_top {a b : List Nat} (ha : Bin a) (hb : Bin b) (hl : a.length = b.length) {k : Nat} (h1 : k < a.length) (h2 : k < b.length) (he : a.drop (k + 1) = b.drop (k + 1)) (hlt : a[k] < b[k]) : bval a < bval b := by
 rw [bval_drop a (k + 1) (by omega), bval_drop b (k + 1) (by omega), he, bval_take a k h1, bval_take b k h2];have h3 := bval_lt (ha.take k);rw [List.length_take, Nat.min_eq_left (by omega)] at h3;have h4 := hb.at_ h2;have e1 : a[k] = 0 := by omega
 have e2 : b[k] = 1 := by omega
 rw [e1, e2];omega
theorem bval_trim {l : List Nat} {n : Nat} (hn : n ≤ l.length) (h : ∀ j, (hj : j < l.length) → n ≤ j → l[j] = 0) : bval (l.take n) = bval l := by
 rw [bval_drop l n hn]
 have : bval (l.drop n) = 0 := by
  have key : ∀ m : List Nat, (∀ x ∈ m, x = 0) → bval m = 0 := by
   intro m
   induction m with
   | nil => intro _; rfl
   | cons x m ih => intro hm; simp only [bval, ih fun y hy => hm y (by simp [hy]), hm x (by simp)]
  refine key _ fun x hx => ?_;obtain ⟨j, hj, rfl⟩ := List.getElem_of_mem hx;rw [List.getElem_drop];simp at hj;exact h _ (by omega) (by omega)
 rw [this];simp
structure BigAt (w : World) (neg : Bool) (A : Option Addr) (n c : Nat) (z : Int) : Prop where
  ex : ∃ bits : List Nat, bits.length = n ∧ n ≤ c ∧ c ≤ maxLen ∧ Sl w A (by8 bits) ∧ Norm bits ∧ (neg = true → bits ≠ []) ∧ z = if neg = true then -(bval bits : Int) else (bval bits : Int)
theorem BigAt.below {w w' : World} {neg : Bool} {A : Option Addr} {n c : Nat} {z : Int} (h : BigAt w neg A n c z) (hb : Below w.heap.size w w') : BigAt w' neg A n c z := by
 obtain ⟨bits, h1, h2, h3, h4, h5, h6, h7⟩ := h.ex;exact ⟨bits, h1, h2, h3, h4.below hb, h5, h6, h7⟩
theorem BigAt.alloc {w : World} {neg : Bool} {A : Option Addr} {n c : Nat} {z : Int} (h : BigAt w neg A n c z) (o : Obj) : BigAt (w.alloc o) neg A n c z := h.below ((Below.refl _ _).alloc (Nat.le_refl _) o)
theorem BigAt.drew {w : World} {neg : Bool} {A : Option Addr} {n c : Nat} {z : Int} (h : BigAt w neg A n c z) : BigAt w.drew neg A n c z := h.below ⟨rfl, rfl, rfl, Nat.le_refl _, fun _ _ => rfl⟩
theorem BigAt.zero (w : World) : BigAt w false none 0 0 0 := ⟨[], rfl, Nat.le_refl _, by decide, Sl.nil, Norm.nil, (fun h => nomatch h), rfl⟩
theorem BigAt.len {w : World} {neg : Bool} {A : Option Addr} {n c : Nat} {z : Int} (h : BigAt w neg A n c z) {k : Nat} : n ≤ k ↔ z.natAbs < 2 ^ k := by
 obtain ⟨bits, h1, h2, h3, h4, h5, h6, h7⟩ := h.ex;rw [← h1, h5.len_iff, h7]
 cases neg <;> simp
theorem BigAt.neg_iff {w : World} {neg : Bool} {A : Option Addr} {n c : Nat} {z : Int} (h : BigAt w neg A n c z) : neg = decide (z < 0) := by
 obtain ⟨bits, h1, h2, h3, h4, h5, h6, h7⟩ := h.ex
 cases neg with
 | false => simp only [Bool.false_eq_true, if_false] at h7; rw [h7]; simp
 | true =>
  simp only [if_true] at h7
  have : 0 < bval bits := by
   have := h5.zero;have := h6 rfl
   rcases Nat.eq_zero_or_pos (bval bits) with h | h
   ·exact absurd (h5.zero.1 h) (h6 rfl)
   ·exact h
  rw [h7]
  symm
  simp;omega
theorem big_take {w : World} {A : Option Addr} {c k : Nat} {bits : List Nat} (neg : Bool) (hb : Bin bits) (hk : k ≤ bits.length) (hc : bits.length ≤ c ∧ c ≤ maxLen) (hs : Sl w A (by8 bits))
  (hz : ∀ j, (hj : j < bits.length) → k ≤ j → bits[j] = 0) (hn : ∀ m, (hm : m < bits.length) → k = m + 1 → bits[m] = 1) :
  BigAt w (neg && decide (0 < k)) A k c (if neg = true then -(bval bits : Int) else (bval bits : Int)) := by
 have hv := bval_trim hk hz
 have hN : Norm (bits.take k) := by
  refine ⟨hb.take k, fun j hj hl => ?_⟩;have h1 : j < bits.length := by simp at hj; omega
  rw [List.getElem_take];refine hn j h1 ?_;rw [List.length_take] at hl;omega
 refine ⟨bits.take k, by simp; omega, by omega, hc.2, by rw [by8_take]; exact hs.take k, hN, fun h e => ?_, ?_⟩
 ·have : k = 0 := by
   have := congrArg List.length e;simp at this
   rcases this with h | h
   ·exact h
   ·rw [h] at hk; simp at hk; exact hk
  subst this;simp at h
 ·rw [hv]
  cases neg with
  | false => simp
  | true =>
   simp only [Bool.true_and, if_true]
   by_cases h : 0 < k
   ·simp [h]
   ·have hk0 : k = 0 := by omega
    subst hk0;simp [bval] at hv;simp [← hv]
theorem own_cap' {w : World} {base : Nat} {e : TypeId} {size n c : Nat} {A : Option Addr} {xs : List Value} (h : w.ownsRow base e size (.slice A n c) n xs) : n ≤ c ∧ c ≤ maxLen := by
 rcases h.2 with ⟨hv, h0⟩ | ⟨g, cap, cur, hv, hg, hh, hnc, hcm, _⟩
 ·injection hv with e1 e2 e3; subst e3; subst h0; exact ⟨Nat.le_refl _, by decide⟩
 ·injection hv with e1 e2 e3; subst e3; exact ⟨hnc, hcm⟩
end
end Go.Proofs.YtpmnjojednbnpaaGreatDoor
