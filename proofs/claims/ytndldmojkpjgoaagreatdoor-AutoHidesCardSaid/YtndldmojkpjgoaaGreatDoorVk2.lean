/- AutoHides holds of the program: the walks of its reference, its law and the program's Hide, and the card. -/
import Derived.Laws.OwnMore
import Derived.ProofKit
import Derived.SizedLaws
import Derived.Deep.Slices
import Derived.Test.YtndldmojkpjgoaaGreatDoorVk1
set_option maxRecDepth 100000
namespace Go.Proofs.YtndldmojkpjgoaaGreatDoor
section
open Go Sym
abbrev ints (l : List Int) : List Value:=l.map (Value.int .i64)
abbrev ip (l : List Bool) : List Value:=l.map Value.bool
structure Ow where
 v : Value
 e : Nat
 s : Nat
 n : Nat
 xs : List Value
def Ow.ok (base : Nat) (w : World) (o : Ow) : Prop:=w.ownsRow base o.e o.s o.v o.n o.xs
def nj (a b : Value) : Prop:=a.ownBlock = none ∨ a.ownBlock ≠ b.ownBlock
theorem nj.symm {a b : Value} (h : nj a b) : nj b a:=by
 unfold nj at *
 rcases h with h | h
 ·cases hb : b.ownBlock with
  | none=>exact .inl rfl
  | some k=>exact .inr (by rw [h]; simp)
 ·exact .inr fun e=>h e.symm
def Rows (base : Nat) (w : World) (l : List Ow) : Prop:=(∀ (i : Nat) (o : Ow),l[i]? = some o → o.ok base w) ∧ ∀ (i j : Nat) (a b : Ow),i ≠ j → l[i]? = some a → l[j]? = some b → nj a.v b.v
abbrev oI (v : Value) (l : List Int) : Ow:=⟨v,3,1,l.length,ints l⟩
abbrev oB (v : Value) (l : List Bool) : Ow:=⟨v,4,1,l.length,ip l⟩
section
variable {base : Nat} {w w' : World} {l : List Ow}
theorem Rows.nil (base : Nat) (w : World) : Rows base w []:=⟨fun i o h=>by simp at h,fun i j a b _ h=>by simp at h⟩
theorem Rows.turn (h : Rows base w l) {i : Nat} {o o' : Ow} (hi : l[i]? = some o) (hg : w.grownBy w' o.v.ownBlock) (ho : o'.ok base w') (hat : o'.v.ownBlock = o.v.ownBlock ∨ ∃ k,o'.v.ownBlock = some k ∧ w.heap.size ≤ k) : Rows base w' (l.set i o'):=by
 obtain ⟨h1,h2⟩:=h;have hil:=(List.getElem?_eq_some_iff.1 hi).1
 have new : ∀ (j : Nat) (b : Ow),i ≠ j → l[j]? = some b → nj o'.v b.v:=fun j b hij hb=>by
  rcases hat with e | ⟨k,e,hk⟩
  ·have:=h2 i j o b hij hi hb
   unfold nj at *;rw [e]; exact this
  ·refine .inr fun e2=>?_
   have:=((h1 j b hb).lt k (by rw [← e2,e])).2
   omega
 refine ⟨fun k a ha=>?_,fun p q a b hpq ha hb=>?_⟩
 ·rw [List.getElem?_set] at ha
  split at ha
  ·rename_i e;subst e;simp only [Option.some.injEq] at ha;rw [← ha]; exact ho
  ·rename_i e;exact (h1 k a ha).kept hg (h2 k i a o (fun e2=>e e2.symm) ha hi)
 ·rw [List.getElem?_set] at ha hb
  split at ha
  ·rename_i e;subst e;simp only [Option.some.injEq] at ha;rw [if_neg hpq] at hb;rw [← ha]; exact new q b hpq hb
  ·rename_i e
   split at hb
   ·rename_i e2;subst e2;simp only [Option.some.injEq] at hb;rw [← hb]; exact (new p a e ha).symm
   ·exact h2 p q a b hpq ha hb
theorem Rows.kept (h : Rows base w l) (hg : w.grownBy w' none) : Rows base w' l:=⟨fun i o ho=>(h.1 i o ho).kept hg (by cases o.v.ownBlock <;> simp),h.2⟩
theorem Rows.keptLow (h : Rows base w l) {row : Option Nat} (hg : w.grownBy w' row) (hr : ∀ k,row = some k → k < base) : Rows base w' l:=⟨fun i o ho=>(h.1 i o ho).kept hg (by
 cases hb : o.v.ownBlock with
 | none=>exact .inl rfl
 | some k=>
   refine .inr fun e=>?_;have h1:=hr k e.symm;have h2:=((h.1 i o ho).lt k hb).1
   omega),h.2⟩
theorem et (h : RowKit.Below w.heap.size w w') : w.grownBy w' none:=⟨h.os,h.tape,h.output,h.size,fun q hq _=>h.block q hq⟩
theorem Rows.below (h : Rows base w l) (hb : RowKit.Below w.heap.size w w') : Rows base w' l:=h.kept (et hb)
theorem Rows.new (h : Rows base w l) (hg : w.grownBy w' none) {o : Ow} (ho : o.ok base w') (hat : o.v.ownBlock = none ∨ ∃ k,o.v.ownBlock = some k ∧ w.heap.size ≤ k) : Rows base w' (o :: l):=by
 have hk:=h.kept hg
 have new : ∀ (j : Nat) (b : Ow),l[j]? = some b → nj o.v b.v:=fun j b hb=>by
  rcases hat with e | ⟨k,e,hk⟩
  ·exact .inl e
  ·refine .inr fun e2=>?_
   have:=((h.1 j b hb).lt k (by rw [← e2,e])).2
   omega
 refine ⟨fun i a ha=>?_,fun i j a b hij ha hb=>?_⟩
 ·cases i with
  | zero=>simp only [List.getElem?_cons_zero,Option.some.injEq] at ha; rw [← ha]; exact ho
  | succ i=>exact hk.1 i a (by simpa using ha)
 ·cases i with
  | zero=>
    cases j with
    | zero=>exact (hij rfl).elim
    | succ j=>
      simp only [List.getElem?_cons_zero,Option.some.injEq] at ha;rw [← ha]; exact new j b (by simpa using hb)
  | succ i=>
    cases j with
    | zero=>
      simp only [List.getElem?_cons_zero,Option.some.injEq] at hb;rw [← hb]; exact (new i a (by simpa using ha)).symm
    | succ j=>exact hk.2 i j a b (fun e=>hij (by rw [e])) (by simpa using ha) (by simpa using hb)
theorem Rows.alloc (h : Rows base w l) (o : Obj) : Rows base (w.alloc o) l:=h.kept (World.grownBy_alloc w o none)
theorem Rows.erase (h : Rows base w l) (i : Nat) : Rows base w (l.eraseIdx i):=by
 refine ⟨fun k o ho=>?_,fun p q a b hpq ha hb=>?_⟩
 ·rw [List.getElem?_eraseIdx] at ho
  split at ho
  ·exact h.1 _ _ ho
  ·exact h.1 _ _ ho
 ·rw [List.getElem?_eraseIdx] at ha hb
  split at ha <;> split at hb
  ·exact h.2 _ _ _ _ hpq ha hb
  ·exact h.2 _ _ _ _ (by omega) ha hb
  ·exact h.2 _ _ _ _ (by omega) ha hb
  ·exact h.2 _ _ _ _ (by omega) ha hb
theorem Rows.tail {o : Ow} (h : Rows base w (o :: l)) : Rows base w l:=h.erase 0
theorem Rows.cons2 {a b : Ow} (h : Rows base w (a :: b :: l)) : Rows base w (b :: a :: l):=by
 let f : Nat → Nat:=fun i=>match i with | 0=>1 | 1=>0 | n + 2=>n + 2
 have hf : ∀ i o,(b :: a :: l)[i]? = some o → (a :: b :: l)[f i]? = some o:=fun i o ho=>by
  match i,ho with
  | 0,ho=>exact ho
  | 1,ho=>exact ho
  | n + 2,ho=>exact ho
 have inj : ∀ i j,i ≠ j → f i ≠ f j:=fun i j hij=>by
  match i,j,hij with
  | 0,0,h=>exact (h rfl).elim
  | 0,1,_=>simp [f]
  | 0,n + 2,_=>simp [f]
  | 1,0,_=>simp [f]
  | 1,1,h=>exact (h rfl).elim
  | 1,n + 2,_=>simp [f]
  | m + 2,0,_=>simp [f]
  | m + 2,1,_=>simp [f]
  | m + 2,n + 2,h=>simp only [f]; omega
 exact ⟨fun i o ho=>h.1 (f i) o (hf i o ho),fun i j x y hij hx hy=>h.2 (f i) (f j) x y (inj i j hij) (hf i x hx) (hf j y hy)⟩
theorem Rows.mono {base' : Nat} (h : Rows base w l) (hb : base' ≤ base) : Rows base' w l:=⟨fun i o ho=>ez (h.1 i o ho) hb,h.2⟩
theorem Rows.lt (h : Rows base w l) {i : Nat} {o : Ow} (hi : l[i]? = some o) {k : Nat} (hk : o.v.ownBlock = some k) : base ≤ k ∧ k < w.heap.size:=(h.1 i o hi).lt k hk
theorem Rows.low (h : Rows base w l) {i : Nat} {o : Ow} (hi : l[i]? = some o) {w0 : World} (hB : RowKit.Below base w0 w) (hs : base ≤ w.heap.size) (hg : w.grownBy w' o.v.ownBlock) : RowKit.Below base w0 w':=
 ⟨hg.os.trans hB.os,hg.tape.trans hB.tape,hg.output.trans hB.output,Nat.le_trans hB.size hg.size,fun k hk=>by
  refine (hg.block k (Nat.lt_of_lt_of_le hk hs) (fun e=>?_)).trans (hB.block k hk)
  have:=(h.lt hi e.symm).1
  omega⟩
theorem Rows.cellI (h : Rows base w l) {i g n c : Nat} {xs : List Int} (hi : l[i]? = some (oI (Vs g n c) xs)) {j : Nat} (hj : j < xs.length) : w.cell? ⟨g,0 + j,none⟩ = some (Vi xs[j]):=by
 have:=h.1 i _ hi
 have hn : n = xs.length:=by
  rcases this.2 with ⟨e,_⟩ | ⟨_,_,_,e,_⟩
  ·cases e
  ·simp only [Value.slice.injEq] at e; exact e.2.1
 subst hn;rw [Nat.zero_add,World.ownsRow.cellAt this j (by simpa using hj)];simp [hj]
theorem Rows.len (h : Rows base w l) {i g n n' c e s : Nat} {xs : List Value} (hi : l[i]? = some ⟨Vs g n c,e,s,n',xs⟩) : n = n':=by
 rcases (h.1 i _ hi).2 with ⟨e,_⟩ | ⟨_,_,_,e,_⟩
 ·cases e
 ·simp only [Value.slice.injEq] at e; exact e.2.1
theorem Rows.freeI (h : Rows base w l) {i g n n' c e s : Nat} {xs : List Value} (hi : l[i]? = some ⟨Vs g n c,e,s,n',xs⟩) (j : Nat) : w.frozen? ⟨g,0 + j,none⟩ = false:=by
 obtain rfl:=h.len hi;rw [Nat.zero_add]; exact World.ownsRow.frozenAt (h.1 i _ hi) j
theorem Rows.storeI (h : Rows base w l) {i g n c : Nat} {xs : List Int} (hi : l[i]? = some (oI (Vs g n c) xs)) (j : Nat) (x : Int) :
  Rows base (w.setCell ⟨g,0 + j,none⟩ (Vi x)) (l.set i (oI (Vs g n c) (xs.set j x))) ∧ w.grownBy (w.setCell ⟨g,0 + j,none⟩ (Vi x)) (some g):=by
 obtain rfl:=h.len hi;rw [Nat.zero_add];obtain ⟨h1,h2⟩:=World.ownsRow.stored (h.1 i _ hi) j (Vi x);refine ⟨h.turn hi h2 ?_ (.inl rfl),h2⟩;show World.ownsRow _ base _ 1 _ (xs.set j x).length (ints (xs.set j x));rw [List.length_set,show ints (xs.set j x) = (ints xs).set j (Vi x) from List.map_set ..]
 exact h1
theorem Rows.makeI (h : Rows base w l) (hb : base ≤ w.heap.size) {n : Nat} (hn : n ≤ 9223372036854775807) : Rows base (w.alloc (.cells (madeCells #[Vi 0] n) 3)) (oI (Vs w.heap.size n n) (List.replicate n 0) :: l):=by
 refine h.new (World.grownBy_alloc w _ none) ?_ (.inr ⟨_,rfl,Nat.le_refl _⟩);have h1:=World.ownsRow_lit (base:=base) (e:=3) (size:=1) w (madeCells #[Vi 0] n) n hb (by unfold maxLen; exact hn) (by simp [madeCells]);rw [toList_madeCells_one] at h1
 simpa [ints,Ow.ok] using h1
theorem Rows.litI (h : Rows base w l) (hb : base ≤ w.heap.size) : Rows base (w.alloc (.cells #[] 3)) (oI (Vs w.heap.size 0 0) [] :: l):=
 h.new (World.grownBy_alloc w _ none) (jq w base 3 hb) (.inr ⟨_,rfl,Nat.le_refl _⟩)
theorem Rows.appI {w2 : World} (h : Rows base w l) {i : Nat} {v v' : Value} {xs : List Int} {x : Int} (hi : l[i]? = some (oI v xs)) (hown : w2.ownsRow base 3 1 v' (xs.length + 1) (ints xs ++ [Vi x])) (hgr : w.grownBy w2 v.ownBlock) (hat : v'.ownBlock = v.ownBlock ∨ v'.ownBlock = some w.heap.size) :
  Rows base w2 (l.set i (oI v' (xs ++ [x]))):=by
 refine h.turn hi hgr ?_ (hat.imp id fun e=>⟨_,e,Nat.le_refl _⟩);show World.ownsRow _ base _ 1 _ (xs ++ [x]).length (ints (xs ++ [x]));rw [List.length_append,show ints (xs ++ [x]) = ints xs ++ [Vi x] by simp];exact hown
theorem Rows.slI (h : Rows base w l) {i : Nat} {v : Value} {xs : List Int} (hi : l[i]? = some (oI v xs)) (hx : ∀ x ∈ xs,I64 x) : Sl w v xs PInt ∧ Ok v:=
 jn (P:=PInt) (h.1 i _ hi) rfl fun j hj=>⟨_,by simp [hj],rfl,hx _ (List.getElem_mem hj)⟩
theorem Rows.form (h : Rows base w l) {i : Nat} {v : Value} {e s n : Nat} {xs : List Value} (hi : l[i]? = some ⟨v,e,s,n,xs⟩) : v = .slice none 0 0 ∧ n = 0 ∨ ∃ g c,v = Vs g n c ∧ n ≤ c ∧ c ≤ 9223372036854775807:=by
 rcases (h.1 i _ hi).2 with ⟨e,h0⟩ | ⟨g,cap,cur,e,_,hg,h1,h2,_⟩
 ·exact .inl ⟨e,h0⟩
 ·exact .inr ⟨g,cap,e,h1,h2⟩
theorem Rows.cellB (h : Rows base w l) {i g n c : Nat} {xs : List Bool} (hi : l[i]? = some (oB (Vs g n c) xs)) {j : Nat} (hj : j < xs.length) : w.cell? ⟨g,0 + j,none⟩ = some (.bool xs[j]):=by
 have:=h.1 i _ hi
 have hn : n = xs.length:=by
  rcases this.2 with ⟨e,_⟩ | ⟨_,_,_,e,_⟩
  ·cases e
  ·simp only [Value.slice.injEq] at e; exact e.2.1
 subst hn;rw [Nat.zero_add,World.ownsRow.cellAt this j (by simpa using hj)];simp [hj]
theorem Rows.storeB (h : Rows base w l) {i g n c : Nat} {xs : List Bool} (hi : l[i]? = some (oB (Vs g n c) xs)) (j : Nat) (x : Bool) :
  Rows base (w.setCell ⟨g,0 + j,none⟩ (.bool x)) (l.set i (oB (Vs g n c) (xs.set j x))) ∧ w.grownBy (w.setCell ⟨g,0 + j,none⟩ (.bool x)) (some g):=by
 obtain rfl:=h.len hi;rw [Nat.zero_add];obtain ⟨h1,h2⟩:=World.ownsRow.stored (h.1 i _ hi) j (.bool x);refine ⟨h.turn hi h2 ?_ (.inl rfl),h2⟩;show World.ownsRow _ base _ 1 _ (xs.set j x).length (ip (xs.set j x));rw [List.length_set,show ip (xs.set j x) = (ip xs).set j (.bool x) from List.map_set ..]
 exact h1
theorem Rows.slB (h : Rows base w l) {i : Nat} {v : Value} {xs : List Bool} (hi : l[i]? = some (oB v xs)) : Sl w v xs je ∧ Ok v:=
 jn (P:=je) (h.1 i _ hi) rfl fun j hj=>⟨_,by simp [hj],rfl⟩
end
theorem Ma.cell {w : World} {L s : Int} {next : List (List Int)} {fin : List Bool} {vn ve : Value} (hm : Ma w L s next fin vn ve) {i : Nat} (hi : i < next.length) :
  ∃ b o cn,vn = .slice (some ⟨b,o,none⟩) next.length cn ∧ ∃ ar cr,w.cell? ⟨b,o + i,none⟩ = some (.slice ar next[i].length cr) ∧ (∀ c (hc : c < next[i].length),∃ br orr,ar = some ⟨br,orr,none⟩ ∧ w.cell? ⟨br,orr + c,none⟩ = some (Vi next[i][c])):=by
 obtain ⟨an,bn,on,cn,rfl,m1,m2,m3,m4⟩:=hm.n;obtain rfl:=m1 (by omega);obtain ⟨u,hu,hpu,-⟩:=m4 i hi;obtain ⟨au,bu,ou,cu,rfl,u1,u2,u3,u4⟩:=hpu;refine ⟨bn,on,cn,rfl,au,cu,hu,fun c hc=>?_⟩;obtain rfl:=u1 (by omega);obtain ⟨y,hy,rfl,-⟩:=u4 c hc;exact ⟨bu,ou,rfl,hy⟩
theorem pw {next : List (List Int)} {i c : Nat} (hi : i < next.length) (hc : c < next[i].length) : tgtM next i c = next[i][c]:=by
 simp [tgtM,List.getD_eq_getElem?_getD,hi,hc]
theorem Ma.end {w : World} {L s : Int} {next : List (List Int)} {fin : List Bool} {vn ve : Value} (hm : Ma w L s next fin vn ve) {i : Nat} (hi : i < fin.length) :
  ∃ b o ce,ve = .slice (some ⟨b,o,none⟩) fin.length ce ∧ w.cell? ⟨b,o + i,none⟩ = some (.bool fin[i]):=by
 obtain ⟨ae,be,oe,ce,rfl,hea,he1,he2,he3⟩:=hm.e;obtain rfl:=hea (by omega);obtain ⟨y,hy,rfl⟩:=he3 i hi;exact ⟨be,oe,ce,rfl,hy⟩
end
section
open Go Sym
open Go.ChangeShapes Go.WideShapes Go.ChangeAt
section
variable {H : Type} {enc : TypeId × Value → H} {P : Program} {w : World} {fuel : Nat} {x : DataW H × List MemPlace} {v : Value} {t e : TypeId}
theorem ahk {a : Addr} {u : Value} (h : w.cell? a = some u) : a.spot = none:=by
 unfold World.cell? at h
 split at h
 ·split at h
  ·cases h
  ·rename_i hs; simpa using hs
 ·cases h
theorem aj2 {a : Addr} (h : a.spot = none) (c : Nat) : a.add c = ⟨a.block,a.off + c,none⟩:=by
 obtain ⟨b,o,s⟩:=a;simp only at h;subst h;unfold Addr.add
 split
 ·rename_i h0; subst h0; rfl
 ·rfl
theorem i64_wf {n : Int} (h : (Lit.int .i64 n).wf = true) : I64 n:=by
 simp [Lit.wf,IntKind.min,IntKind.max,IntKind.signed,IntKind.bits] at h;exact ⟨by omega,by omega⟩
theorem age {α : Type} {p : Nat → α → Prop} : ∀ n : Nat,(∀ i,i < n → ∃ a,p i a) → ∃ l : List α,l.length = n ∧ ∀ i (h : i < l.length),p i l[i]
 | 0,_=>⟨[],rfl,fun i hi=>by simp at hi⟩
 | k + 1,hp=>by
   obtain ⟨l,l1,l2⟩:=age k (fun i hi=>hp i (by omega));obtain ⟨b,hb⟩:=hp k (Nat.lt_succ_self _);refine ⟨l ++ [b],by simp [l1],fun i hi=>?_⟩
   rcases Nat.lt_or_ge i l.length with h1 | h1
   ·rw [List.getElem_append_left h1]; exact l2 i h1
   ·have : i = l.length:=by simp at hi; omega
    subst this;rw [List.getElem_concat_length rfl,l1]; exact hb
def xy (P : Program) (t : TypeId) (d : DataW H) : Prop:=∀ n ∈ d.weights P t,n ≤ 140737488351232
theorem aan {α : Type} {Pr : World → Value → α → Prop} (ht : P.underlying t = some (.slice e)) (hc : P.cellsOf e = 1) (h : DataW.trod enc P w 0 (fun _=>true) true fuel t [v] = some x) (hl : xy P t x.1)
  (hel : ∀ (n : Nat) (u : Value) (y : DataW H × List MemPlace),DataW.trod enc P w 0 (fun _=>true) true n e [u] = some y → xy P e y.1 → ∃ a : α,Pr w u a) :
  ∃ l : List α,Sl w v l Pr ∧ Ok v ∧ l.length * P.bytesOf e ≤ 140737488351232:=by
 rcases Go.Deep.open_slice1 ht hc h with ⟨hcs,hx⟩ | ⟨a,len,cap,m,n,V,D,Pl,hcs,hb,hlc,hm,hmm,hx,hel2⟩
 ·obtain rfl : v = .slice none 0 0:=by simpa using hcs
  exact ⟨[],⟨none,0,0,0,rfl,fun h=>by simp at h,Nat.le_refl _,by decide,fun i hi=>by simp at hi⟩,.inl (.inl rfl),by simp⟩
 ·obtain rfl : v = .slice (some a) len cap:=by simpa using hcs
  simp only [if_true] at hmm;subst hmm;subst hx
  have hw : (len + (m - len)) * P.bytesOf e ≤ 140737488351232:=by
   refine hl _ ?_;simp [DataW.weights,ht]
  have hlight : ∀ i,i < len → xy P e (D i):=fun i hi n hn=>by
   refine hl n ?_;simp only [DataW.weights,ht,List.mem_cons,List.mem_append];refine .inr (.inl ?_)
   have : ∀ (ds : List (DataW H)) (d : DataW H),d ∈ ds → n ∈ d.weights P e → n ∈ DataW.weightsAll P e ds:=by
    intro ds
    induction ds with
    | nil=>intro d hd; cases hd
    | cons d0 r ih=>
      intro d hd hn;rw [DataW.weightsAll,List.mem_append]
      rcases List.mem_cons.1 hd with rfl | hd
      ·exact .inl hn
      ·exact .inr (ih d hd hn)
   exact this _ (D i) (List.mem_map.2 ⟨i,List.mem_range.2 hi,rfl⟩) hn
  have hl2:=age (p:=fun i b=>Pr w (V i) b) len (fun i hi=>hel n (V i) _ (hel2 i (by omega)).2 (hlight i hi));obtain ⟨l,rfl,l2⟩:=hl2;have hmx : m ≤ 9223372036854775807:=by unfold maxLen at hm; exact hm
  rcases Nat.eq_zero_or_pos l.length with h0 | h0
  ·refine ⟨l,⟨some a,a.block,a.off,m,rfl,fun h=>by omega,hlc,hmx,fun i hi=>by omega⟩,.inl (.inr ⟨a,m,by rw [h0]⟩),by rw [h0]; simp⟩
  ·have hsp : a.spot = none:=by
    have:=ahk (hel2 0 (by omega)).1
    unfold Addr.add at this
    simpa using this
   have ha : a = ⟨a.block,a.off,none⟩:=by
    obtain ⟨b,o,s⟩:=a;simp only at hsp;rw [hsp]
   refine ⟨l,⟨some a,a.block,a.off,m,rfl,fun _=>by rw [← ha],hlc,hmx,fun i hi=>⟨V i,?_,l2 i hi⟩⟩,.inr ⟨a.block,a.off,_,m,by rw [← ha]⟩,?_⟩
   ·rw [← aj2 hsp]; exact (hel2 i (by omega)).1
   ·exact Nat.le_trans (Nat.mul_le_mul_right _ (by omega)) hw
theorem ws (ht : P.underlying t = some (.int .i64)) (h : DataW.trod enc P w 0 (fun _=>true) true fuel t [v] = some x) : ∃ n : Int,v = Vi n ∧ I64 n:=by
 obtain ⟨n,h1,_,h2⟩:=DataW.trod_int ht h;exact ⟨n,by simpa using h1,i64_wf h2⟩
theorem open_tf (ht : P.underlying t = some .bool) (h : DataW.trod enc P w 0 (fun _=>true) true fuel t [v] = some x) : ∃ b : Bool,v = .bool b:=by
 obtain ⟨b,h1,_⟩:=DataW.trod_bool ht h;exact ⟨b,by simpa using h1⟩
end
section
variable {H : Type} {enc : TypeId × Value → H} {w : World} {fuel : Nat} {x : DataW H × List MemPlace} {v : Value}
theorem v6 : Tryz.prog.cellsOf 3 = 1:=by kernel_rfl
theorem aba : Tryz.prog.cellsOf 4 = 1:=by kernel_rfl
theorem aa9 : Tryz.prog.cellsOf 34 = 1:=by kernel_rfl
theorem aa8 : Tryz.prog.cellsOf 22 = 1:=by kernel_rfl
theorem zb : Tryz.prog.cellsOf 23 = 1:=by kernel_rfl
theorem ad8 : Tryz.prog.bytesOf 3 = 8:=by kernel_rfl
theorem abc : Tryz.prog.bytesOf 4 = 1:=by kernel_rfl
theorem abb : Tryz.prog.bytesOf 34 = 24:=by kernel_rfl
def PRowB (w : World) (v : Value) (l : List Int) : Prop:=PRow w v l ∧ l.length * 8 ≤ 140737488351232
theorem adh (h : DataW.trod enc Tryz.prog w 0 (fun _=>true) true fuel 34 [v] = some x) (hl : xy Tryz.prog 34 x.1) : ∃ l : List Int,PRowB w v l:=by
 obtain ⟨l,h1,h2,h3⟩:=aan (Pr:=PInt) Tryz.underlying34 v6 h hl (fun n u y hy _=>by
  obtain ⟨a,ha,hb⟩:=ws Tryz.underlying3 hy;exact ⟨a,ha,hb⟩)
 rw [ad8] at h3;exact ⟨l,⟨h1,h2⟩,h3⟩
theorem sc (h : DataW.trod enc Tryz.prog w 0 (fun _=>true) true fuel 23 [v] = some x) (hl : xy Tryz.prog 23 x.1) : ∃ l : List Bool,Sl w v l je ∧ Ok v ∧ l.length ≤ 140737488351232:=by
 obtain ⟨l,h1,h2,h3⟩:=aan (Pr:=je) Tryz.underlying23 aba h hl (fun n u y hy _=>by
  obtain ⟨a,ha⟩:=open_tf Tryz.underlying4 hy;exact ⟨a,ha⟩)
 rw [abc] at h3;exact ⟨l,h1,h2,by omega⟩
theorem uy (h : DataW.trod enc Tryz.prog w 0 (fun _=>true) true fuel 22 [v] = some x) (hl : xy Tryz.prog 22 x.1) :
  ∃ l : List (List Int),Sl w v l PRow ∧ Ok v ∧ l.length * 24 ≤ 140737488351232 ∧ ∀ r ∈ l,r.length * 8 ≤ 140737488351232:=by
 obtain ⟨l,h1,h2,h3⟩:=aan (Pr:=PRowB) Tryz.underlying22 aa9 h hl (fun n u y hy hly=>adh hy hly);rw [abb] at h3;obtain ⟨a,b,o,cap,rfl,g1,g2,g3,g4⟩:=h1;refine ⟨l,⟨a,b,o,cap,rfl,g1,g2,g3,fun i hi=>?_⟩,h2,h3,fun r hr=>?_⟩
 ·obtain ⟨u,u1,u2⟩:=g4 i hi;exact ⟨u,u1,u2.1⟩
 ·obtain ⟨i,hi,rfl⟩:=List.mem_iff_getElem.1 hr;obtain ⟨u,u1,u2⟩:=g4 i hi;exact u2.2
structure MaIn (w : World) (L s : Int) (next : List (List Int)) (fin : List Bool) (vn ve : Value) : Prop where
 ma : Ma w L s next fin vn ve
 nb : next.length * 24 ≤ 140737488351232
 rb : ∀ r ∈ next,r.length * 8 ≤ 140737488351232
 fb : fin.length ≤ 140737488351232
theorem ym {d : DataW H} {ps : List MemPlace} (h : DataW.Trod enc Tryz.prog w 0 (fun _=>true) true 25 v d ps) (hl : xy Tryz.prog 25 d) :
  ∃ (L s : Int) (next : List (List Int)) (fin : List Bool) (vn ve : Value),v = .agg #[Vi L,Vi s,vn,ve] ∧ MaIn w L s next fin vn ve:=by
 obtain ⟨fuel,hf⟩:=h;obtain ⟨xs,n,rfl,hx,hlen,hxl,hfs⟩:=DataW.trod_struct Tryz.underlying25 hf;rw [show Tryz.prog.cellsOf 25 = 4 by kernel_rfl] at hlen;simp only [Prod.mk.injEq] at hx;obtain ⟨rfl,-⟩:=hx
 have hv : ∃ a b c d,v = .agg #[a,b,c,d]:=by
  cases v <;> simp [Value.cells] at hlen
  rename_i cs;obtain ⟨l⟩:=cs
  match l,hlen with
  | [a,b,c,d],_=>exact ⟨a,b,c,d,rfl⟩
 obtain ⟨va,vb,vc,vd,rfl⟩:=hv;have f0 : DataW.trod enc Tryz.prog w 0 (fun _=>true) true n 3 ([va,vb,vc,vd].take (Tryz.prog.cellsOf 3)) = xs[0]?:=hfs 0 _ rfl;have f1 : DataW.trod enc Tryz.prog w 0 (fun _=>true) true n 3 ([vb,vc,vd].take (Tryz.prog.cellsOf 3)) = xs[1]?:=hfs 1 _ rfl;have f2 : DataW.trod enc Tryz.prog w 0 (fun _=>true) true n 22 ([vc,vd].take (Tryz.prog.cellsOf 22)) = xs[2]?:=hfs 2 _ rfl;have f3 : DataW.trod enc Tryz.prog w 0 (fun _=>true) true n 23 ([vd].take (Tryz.prog.cellsOf 23)) = xs[3]?:=hfs 3 _ rfl;rw [v6] at f0 f1;rw [aa8] at f2;rw [zb] at f3
 match xs,hxl with
 | [x0,x1,x2,x3],_=>
   replace f0 : DataW.trod enc Tryz.prog w 0 (fun _=>true) true n 3 [va] = some x0:=f0;replace f1 : DataW.trod enc Tryz.prog w 0 (fun _=>true) true n 3 [vb] = some x1:=f1;replace f2 : DataW.trod enc Tryz.prog w 0 (fun _=>true) true n 22 [vc] = some x2:=f2;replace f3 : DataW.trod enc Tryz.prog w 0 (fun _=>true) true n 23 [vd] = some x3:=f3
   have hw : ∀ (i : Nat) (t : TypeId) (y : DataW H × List MemPlace),[(3 : TypeId),3,22,23][i]? = some t → [x0,x1,x2,x3][i]? = some y → xy Tryz.prog t y.1:=fun i t y ht hy m hm=>by
    refine hl m ?_;simp only [DataW.weights,Tryz.underlying25];refine DataW.weights_mem_each (j:=i) (t:=t) (d:=y.1) ?_ ?_ m hm
    ·simpa using ht
    ·rw [List.getElem?_map,hy]; rfl
   obtain ⟨L,rfl,hL⟩:=ws Tryz.underlying3 f0;obtain ⟨s,rfl,hs⟩:=ws Tryz.underlying3 f1;obtain ⟨next,n1,n2,n3,n4⟩:=uy f2 (hw 2 _ _ rfl rfl);obtain ⟨fin,e1,e2,e3⟩:=sc f3 (hw 3 _ _ rfl rfl);exact ⟨L,s,next,fin,vc,vd,rfl,⟨⟨n1,e1,hL,hs,n2,e2⟩,n3,n4,e3⟩⟩
end
section
variable {H : Type} {enc : TypeId × Value → H}
theorem zg {P : Program} (hl : laidOutB P = true) {W W' : World} (hb : RowKit.Below W.heap.size W W') : ∀ {ts : List TypeId} {vs : List Value} {ds : List (DataW H)} {ps : List MemPlace},
  (∀ t ∈ ts,P.readableRec t = true ∧ t < P.types.size) → (∀ p ∈ ps,p.block < W.heap.size) → DataW.TrodAll enc P W 0 (fun _=>true) true ts vs ds ps → DataW.TrodAll enc P W' 0 (fun b=>decide (b < W.heap.size)) true ts vs ds ps
 | [],vs,ds,ps,_,_,h=>by
   cases vs <;> cases ds <;> simp only [DataW.TrodAll] at h ⊢
   exact h
 | t :: ts,vs,ds,ps,hr,hlt,h=>by
   obtain ⟨v,vs',d,ds',p,q,rfl,rfl,rfl,h1,h2⟩:=trodAll_cons h
   exact ⟨p,q,RowKit.Below.trod hl (hr t (List.mem_cons_self ..)).1 (hr t (List.mem_cons_self ..)).2 h1 hb (fun x hx=>hlt x (List.mem_append_left _ hx)),
    zg hl hb (fun u hu=>hr u (List.mem_cons_of_mem _ hu)) (fun x hx=>hlt x (List.mem_append_right _ hx)) h2,rfl⟩
theorem ai2 {f : Func} {s : ChangeSpec} {W W' : World} {args : Array Value} {ds gs : List (DataW H)} {before : List MemPlace} {tb : TypeId}
  (hW : DataW.Whole enc Tryz.prog f.params.toList s.vars false W args.toList ds gs before) (hs0 : s.vars = []) (hsp : s.fn H ds = { results:=[.lit (.bool true)],args:=ds }) (hr : f.resultTypes = #[tb]) (hbool : Tryz.prog.underlying tb = some .bool)
  (hl : laidOutB Tryz.prog = true) (hts : ∀ t ∈ f.params.toList,Tryz.prog.readableRec t = true ∧ t < Tryz.prog.types.size) (hb : RowKit.Below W.heap.size W W') : s.post enc Tryz.prog f false true false false W args (.bool true) W':=by
 have hW':=hW;obtain ⟨p,q,hA,hV,rfl,_,_⟩:=hW;rw [hs0] at hV;obtain ⟨rfl,rfl⟩:=trodVars_none hV;have hlt : ∀ x ∈ p,x.block < W.heap.size:=fun x hx=>hW'.lt x (List.mem_append_left _ hx);have hsp' : s.fn H (ds ++ []) = { results:=[.lit (.bool true)],args:=ds }:=by rw [List.append_nil]; exact hsp
 refine ⟨ds,[],p ++ [],[],p,[],hW',?_,?_,?_,(hb.frame _),fun h=>by cases h⟩
 ·rw [hsp',hr];exact trodAll_mk1 (RowKit.shut_bool hbool true)
 ·rw [hsp'];exact zg hl hb hts hlt hA
 ·rw [hsp',hs0];exact rfl
end
end
section
open Go Sym
theorem Rows.lit {base : Nat} {w : World} {l : List Ow} (h : Rows base w l) (hb : base ≤ w.heap.size) (cs : List Value) (e n : Nat) (hn : cs.length = n) (hm : n ≤ 9223372036854775807) : Rows base (w.alloc (.cells cs.toArray e)) (⟨Vs w.heap.size n n,e,1,n,cs⟩ :: l):=by
 refine h.new (World.grownBy_alloc w _ none) ?_ (.inr ⟨_,rfl,Nat.le_refl _⟩);have h1:=World.ownsRow_lit (base:=base) (e:=e) (size:=1) w cs.toArray n hb (by unfold maxLen; exact hm) (by simp [hn])
 simpa [Ow.ok] using h1
theorem Rows.slRows {base : Nat} {w : World} {l : List Ow} (h : Rows base w l) {i : Nat} {v : Value} {e : Nat} {vs : List Value} {next : List (List Int)} (hi : l[i]? = some ⟨v,e,1,vs.length,vs⟩) (hl : vs.length = next.length)
  (hr : ∀ j (h1 : j < vs.length) (h2 : j < next.length),∃ k : Nat,l[k]? = some (oI vs[j] next[j]) ∧ ∀ x ∈ next[j],I64 x) : Sl w v next PRow ∧ Ok v:=by
 refine jn (P:=PRow) (h.1 i _ hi) hl fun j hj=>⟨vs[j],by simp [hl,hj],?_⟩;obtain ⟨k,h1,h2⟩:=hr j (by omega) hj;exact h.slI h1 h2
theorem fillS3 (g0 g1 g2 : Option Addr) (n0 n1 n2 c0 c1 c2 : Nat) (z : Value) : Instr.fill (fun i=>some (i * 1,1)) (madeCells #[z] 3) [(0,.slice g0 n0 c0),(1,.slice g1 n1 c1),(2,.slice g2 n2 c2)] = some #[.slice g0 n0 c0,.slice g1 n1 c1,.slice g2 n2 c2]:=by
 have h : ∀ g n c,(Value.slice g n c).cells = #[.slice g n c]:=fun _ _ _=>rfl;simp [Instr.fill,madeCells,h,Array.range,Array.foldl];rfl
theorem fillB3 (a b c : Bool) (z : Value) : Instr.fill (fun i=>some (i * 1,1)) (madeCells #[z] 3) [(0,.bool a),(1,.bool b),(2,.bool c)] = some #[.bool a,.bool b,.bool c]:=by
 have h : ∀ b,(Value.bool b).cells = #[.bool b]:=fun _=>rfl;simp [Instr.fill,madeCells,h,Array.range,Array.foldl];rfl
theorem eh (w : World) : Calls Tryz.prog 12 #[] w fun e w'=>∃ vn ve,e = .returned (.agg #[Vi 1,Vi 0,vn,ve]) ∧ Ma w' 1 0 fm g8 vn ve ∧ RowKit.Below w.heap.size w w':=by
 refine Sym.c8 (args:=[]) Tryz.func12 rfl rfl rfl (fun a0 hS0=>?_);obtain ⟨N,hN⟩ : ∃ N,N = w.heap.size:=⟨_,rfl⟩;refine wp_seq (ai [(0,Vp N)] (· = w.alloc (.cells #[Vi 0,Vi 0,.slice none 0 0,.slice none 0 0] 25)) af hS0 ?_ (fun a wc hS hw=>?_))
 ·subst hN;refine zB rfl ?_
  repeat refine zX rfl ?_
  exact aj ⟨⟨rfl,trivial⟩,rfl⟩
 have hB : RowKit.Below w.heap.size w wc:=by rw [hw]; exact ao _ _
 have ho : OwnB wc N 25 [Vi 0,Vi 0,.slice none 0 0,.slice none 0 0]:=by rw [hw,hN]; exact OwnB.new _ _ _
 clear hw;refine wp_seq (bg (α:=Value × Value) (fun _=>[(0,Vp N)]) (fun x w'=>RowKit.Below w.heap.size w w' ∧ Ma w' 1 0 fm g8 x.1 x.2 ∧ OwnB w' N 25 [Vi 1,Vi 0,x.1,x.2]) af hS ?_ (fun x a w1 hS h1=>?_))
 ·have R0:=Rows.nil wc.heap.size wc;have R1:=R0.lit (Nat.le_refl _) [Vi 1] 3 1 rfl (by decide);obtain ⟨w1,hw1⟩ : ∃ w1,wc.alloc (.cells #[Vi 1] 3) = w1:=⟨_,rfl⟩;have hB1 : RowKit.Below wc.heap.size wc w1:=by rw [← hw1]; exact ao _ _
  rw [show wc.alloc (.cells [Vi 1].toArray 3) = w1 from hw1] at R1
  have R2:=R1.lit hB1.size [Vi 2] 3 1 rfl (by decide);obtain ⟨w2,hw2⟩ : ∃ w2,w1.alloc (.cells #[Vi 2] 3) = w2:=⟨_,rfl⟩;have hB2 : RowKit.Below wc.heap.size wc w2:=ak hB1 (by rw [← hw2]; exact ao _ _);rw [show w1.alloc (.cells [Vi 2].toArray 3) = w2 from hw2] at R2
  have R3:=R2.lit hB2.size [Vi 1] 3 1 rfl (by decide);obtain ⟨w3,hw3⟩ : ∃ w3,w2.alloc (.cells #[Vi 1] 3) = w3:=⟨_,rfl⟩;have hB3 : RowKit.Below wc.heap.size wc w3:=ak hB2 (by rw [← hw3]; exact ao _ _);rw [show w2.alloc (.cells [Vi 1].toArray 3) = w3 from hw3] at R3
  have R4:=R3.lit hB3.size [Vs wc.heap.size 1 1,Vs w1.heap.size 1 1,Vs w2.heap.size 1 1] 34 3 rfl (by decide);obtain ⟨w4,hw4⟩ : ∃ w4,w3.alloc (.cells #[Vs wc.heap.size 1 1,Vs w1.heap.size 1 1,Vs w2.heap.size 1 1] 34) = w4:=⟨_,rfl⟩;have hB4 : RowKit.Below wc.heap.size wc w4:=ak hB3 (by rw [← hw4]; exact ao _ _);rw [show w3.alloc (.cells [Vs wc.heap.size 1 1,Vs w1.heap.size 1 1,Vs w2.heap.size 1 1].toArray 34) = w4 from hw4] at R4
  have R5:=R4.lit hB4.size [.bool true,.bool false,.bool true] 4 3 rfl (by decide);obtain ⟨w5,hw5⟩ : ∃ w5,w4.alloc (.cells #[.bool true,.bool false,.bool true] 4) = w5:=⟨_,rfl⟩;have hB5 : RowKit.Below wc.heap.size wc w5:=ak hB4 (by rw [← hw5]; exact ao _ _);rw [show w4.alloc (.cells [Value.bool true,.bool false,.bool true].toArray 4) = w5 from hw5] at R5
  have ho5:=ho.keep hB5 ho.lt;have hg:=bz N [Vi 1,Vi 0,Vs w3.heap.size 3 3,Vs w4.heap.size 3 3] 0 w5;have hNc : N < wc.heap.size:=ho.lt;have R6:=R5.keptLow hg (fun k hk=>by cases hk; exact hNc)
  have hn:=R6.slRows (i:=1) (vs:=[Vs wc.heap.size 1 1,Vs w1.heap.size 1 1,Vs w2.heap.size 1 1]) (next:=fm) rfl rfl (fun j h1 h2=>by
   match j,h1 with
   | 0,_=>exact ⟨4,rfl,fun x hx=>by simp [fm] at hx; subst hx; exact ⟨by decide,by decide⟩⟩
   | 1,_=>exact ⟨3,rfl,fun x hx=>by simp [fm] at hx; subst hx; exact ⟨by decide,by decide⟩⟩
   | 2,_=>exact ⟨2,rfl,fun x hx=>by simp [fm] at hx; subst hx; exact ⟨by decide,by decide⟩⟩)
  have he:=R6.slB (i:=0) (xs:=g8) rfl;have hma : Ma _ 1 0 fm g8 (Vs w3.heap.size 3 3) (Vs w4.heap.size 3 3):=⟨hn.1,he.1,⟨by decide,by decide⟩,⟨by decide,by decide⟩,hn.2,he.2⟩;have hlow : RowKit.Below w.heap.size w _:=a6 (ak hB hB5) hg (fun k hk=>by cases hk; omega);refine b8 rfl rfl rfl ?_;refine exI [(0,Vi (1))] (exI #[Vi (1)] (anI (anI rfl rfl) (anI (by decide) (anI (jv _ _ _) ?_))));rw [hw1];refine b8 rfl rfl rfl ?_;refine exI [(0,Vi (2))] (exI #[Vi (2)] (anI (anI rfl rfl) (anI (by decide) (anI (jv _ _ _) ?_))));rw [hw2];refine b8 rfl rfl rfl ?_;refine exI [(0,Vi (1))] (exI #[Vi (1)] (anI (anI rfl rfl) (anI (by decide) (anI (jv _ _ _) ?_))));rw [hw3];refine b8 rfl rfl rfl ?_;refine exI [(0,Vs wc.heap.size 1 1),(1,Vs w1.heap.size 1 1),(2,Vs w2.heap.size 1 1)] (exI _ (anI (anI rfl rfl) (anI (by decide) (anI (fillS3 ..) ?_))));rw [hw4];refine b8 rfl rfl rfl ?_;refine exI [(0,.bool true),(1,.bool false),(2,.bool true)] (exI _ (anI (anI rfl rfl) (anI (by decide) (anI (fillB3 ..) ?_))));rw [hw5]
  repeat refine zX rfl ?_
  refine cj rfl rfl (anI rfl (anI rfl (anI (b0 ho5) ?_)));exact aj ⟨(Vs w3.heap.size 3 3,Vs w4.heap.size 3 3),⟨rfl,trivial⟩,hlow,hma,ho5.sets rfl⟩
 obtain ⟨h1,h2,h3⟩:=h1;refine wp_ret ?_
 repeat first|refine a8 ?_|refine am ?_
 refine wl af hS rfl rfl rfl rfl (o:=0) (vs:=[Vi 1,Vi 0,x.1,x.2]) ⟨h3.cell (i:=0) rfl,h3.cell (i:=1) rfl,h3.cell (i:=2) rfl,h3.cell (i:=3) rfl,trivial⟩ rfl ⟨x.1,x.2,rfl,h2,h1⟩
end
section
open Go Sym
def rp (L : Int) (next : List (List Int)) (fin : List Bool) : Bool:=decide ((next.length : Int) ≤ 30) && (decide ((fin.length : Int) ≤ 40) && decide (L ≤ 8))
theorem ae0 (L s : Int) (vn ve : Value) (next : List (List Int)) (fin : List Bool) (w : World) (hm : Ma w L s next fin vn ve) :
  Calls Tryz.prog 4 #[.agg #[Vi L,Vi s,vn,ve]] w fun e w'=>e = .returned (.bool (rp L next fin)) ∧ RowKit.Below w.heap.size w w':=by
 refine Sym.c8 (args:=[.agg #[Vi L,Vi s,vn,ve]]) Tryz.func4 rfl rfl rfl (fun a0 hS0=>?_);refine wp_seq (ai [(1,Vp w.heap.size)] (· = w.alloc (.cells #[Vi L,Vi s,vn,ve] 25)) af hS0 ?_ (fun a wc hS hw=>?_))
 ·refine zB rfl ?_
  repeat refine zX rfl ?_
  exact aj ⟨⟨rfl,trivial⟩,rfl⟩
 have hB : RowKit.Below w.heap.size w wc:=by rw [hw]; exact ao _ _
 have hx : Box wc w.heap.size L s vn ve:=by rw [hw]; exact Box.new _ _ _ _ _ _
 clear hw;obtain ⟨an,cn,hvn⟩:=hm.n.len;subst hvn;obtain ⟨ae,ce,hve⟩:=hm.e.len;subst hve;refine wp_seq (ai [(2,.bool (rp L next fin))] (· = wc) af hS ?_ (fun a w3 hS hw=>?_))
 ·repeat refine zX rfl ?_
  refine zL rfl (hx.c2) ?_
  repeat refine zX rfl ?_
  cases e1 : decide ((next.length : Int) ≤ 30)
  case false=>
   refine zC rfl (e1) ?_
   repeat refine zX rfl ?_
   exact aj ⟨⟨by rw [rp,e1]; rfl,trivial⟩,rfl⟩
  case true=>
   refine zC rfl (e1) ?_
   repeat refine zX rfl ?_
   refine zL rfl (hx.c3) ?_
   repeat refine zX rfl ?_
   cases e2 : decide ((fin.length : Int) ≤ 40)
   case false=>
    refine zC rfl (e2) ?_
    repeat refine zX rfl ?_
    exact aj ⟨⟨by rw [rp,e1,e2]; rfl,trivial⟩,rfl⟩
   case true=>
    refine zC rfl (e2) ?_
    repeat refine zX rfl ?_
    refine zL rfl (hx.c0) ?_;refine zC rfl (rfl) ?_
    repeat refine zX rfl ?_
    exact aj ⟨⟨by rw [rp,e1,e2]; rfl,trivial⟩,rfl⟩
 subst hw;refine wp_ret ?_
 repeat first|refine a8 ?_|refine am ?_
 exact ret1 hS rfl rfl ⟨rfl,hB⟩
structure BoxP (w : World) (B : Nat) (a b : Int) : Prop where
 c0 : w.cell? ⟨B,0,none⟩ = some (Vi a)
 c1 : w.cell? ⟨B,1,none⟩ = some (Vi b)
theorem BoxP.keep {w w' : World} (hb : RowKit.Below w.heap.size w w') {B : Nat} {a b : Int} (h : BoxP w B a b) : BoxP w' B a b:=
 ⟨YtndldmojkpjgoaaGreatDoor.keep hb h.c0,YtndldmojkpjgoaaGreatDoor.keep hb h.c1⟩
theorem BoxP.new (w : World) (a b : Int) (T : TypeId) : BoxP (w.alloc (.cells #[Vi a,Vi b] T)) w.heap.size a b:=⟨ax rfl,ax rfl⟩
end
section
open Go Sym
def SlP (w : World) (v : Value) (l : List (Int × Int)) : Prop:=
 ∃ a b o cap,v = .slice a l.length cap ∧ (0 < l.length → a = some ⟨b,o,none⟩) ∧ l.length ≤ cap ∧ cap ≤ 9223372036854775807 ∧ ∀ i (h : i < l.length),ca w.cell? b (o + i * 2) [Vi l[i].1,Vi l[i].2] ∧ I64 l[i].1 ∧ I64 l[i].2
theorem SlP.keep {w w' : World} (hb : RowKit.Below w.heap.size w w') {v : Value} {l : List (Int × Int)} (h : SlP w v l) : SlP w' v l:=by
 obtain ⟨a,b,o,cap,rfl,h1,h2,h3,h4⟩:=h;exact ⟨a,b,o,cap,rfl,h1,h2,h3,fun i hi=>⟨⟨YtndldmojkpjgoaaGreatDoor.keep hb (h4 i hi).1.1,YtndldmojkpjgoaaGreatDoor.keep hb (h4 i hi).1.2.1,trivial⟩,(h4 i hi).2⟩⟩
theorem BoxP.cells {w : World} {B : Nat} {a b : Int} (h : BoxP w B a b) : ca w.cell? B 0 [Vi a,Vi b]:=⟨h.c0,h.c1,trivial⟩
theorem en_Copy : bk Tryz.prog 8 = true:=by kernel_rfl
end
section
open Go Sym
def acw (f : Nat) : Prop:=∀ (L s : Int) (vn ve vw : Value) (next : List (List Int)) (fin : List Bool) (word : List Int) (w : World),Ma w L s next fin vn ve → Sl w vw word PInt →
 Calls Tryz.prog f #[.agg #[Vi L,Vi s,vn,ve],vw] w fun e w'=>e = .returned (.bool (fq L s next fin word)) ∧ RowKit.Below w.heap.size w w'
def akk (f : Nat) : Prop:=∀ (L s : Int) (vn ve : Value) (next : List (List Int)) (fin : List Bool) (w : World),Ma w L s next fin vn ve → next.length ≤ 100 →
 Calls Tryz.prog f #[.agg #[Vi L,Vi s,vn,ve]] w fun e w'=>∃ (L' s' r : Int) (vn' ve' : Value) (n' : List (List Int)) (f' : List Bool),e = .returned (.tuple #[.agg #[Vi L',Vi s',vn',ve'],Vi r]) ∧ Ma w' L' s' n' f' vn' ve' ∧ RowKit.Below w.heap.size w w' ∧ zl L s next fin L' s' n' f' r
def ah0 (f : Nat) : Prop:=∀ (L1 s1 L2 s2 : Int) (vn1 ve1 vn2 ve2 : Value) (n1 n2 : List (List Int)) (f1 f2 : List Bool) (w : World),Ma w L1 s1 n1 f1 vn1 ve1 → Ma w L2 s2 n2 f2 vn2 ve2 → n1.length ≤ 100 → n2.length ≤ 100 →
 Calls Tryz.prog f #[.agg #[Vi L1,Vi s1,vn1,ve1],.agg #[Vi L2,Vi s2,vn2,ve2]] w fun e w'=>∃ (vw : Value) (word : List Nat) (b : Bool) (r : Int),e = .returned (.tuple #[vw,.bool b,Vi r]) ∧ Sl w' vw (word.map Int.ofNat) PInt ∧ Ok vw ∧ RowKit.Below w.heap.size w w' ∧ aeh L1 s1 n1 f1 L2 s2 n2 f2 word b r
def ahz (f : Nat) : Prop:=∀ (L1 s1 L2 s2 : Int) (vn1 ve1 vn2 ve2 : Value) (n1 n2 : List (List Int)) (f1 f2 : List Bool) (w : World),Ma w L1 s1 n1 f1 vn1 ve1 → Ma w L2 s2 n2 f2 vn2 ve2 → n1.length ≤ 100 → n2.length ≤ 100 →
 Calls Tryz.prog f #[.agg #[Vi L1,Vi s1,vn1,ve1],.agg #[Vi L2,Vi s2,vn2,ve2]] w fun e w'=>∃ (vl : Value) (l : List (Int × Int)) (r : Int),e = .returned (.tuple #[vl,Vi r]) ∧ SlP w' vl l ∧ RowKit.Below w.heap.size w w' ∧ RelE L1 s1 n1 f1 L2 s2 n2 f2 l r
def akm (f : Nat) : Prop:=∀ (L1 s1 L2 s2 : Int) (vn1 ve1 vn2 ve2 v : Value) (n1 n2 : List (List Int)) (f1 f2 : List Bool) (l : List (Int × Int)) (w : World),Ma w L1 s1 n1 f1 vn1 ve1 → Ma w L2 s2 n2 f2 vn2 ve2 → SlP w v l →
 Calls Tryz.prog f #[.agg #[Vi L1,Vi s1,vn1,ve1],.agg #[Vi L2,Vi s2,vn2,ve2],v] w fun e w'=>e = .returned (Vi (vz L1 s1 n1 f1 L2 s2 n2 f2 l)) ∧ RowKit.Below w.heap.size w w'
def akl (f : Nat) : Prop:=∀ (L s len : Int) (vn ve : Value) (next : List (List Int)) (fin : List Bool) (w : World),Ma w L s next fin vn ve → I64 len → next.length ≤ 4000 →
 Calls Tryz.prog f #[.agg #[Vi L,Vi s,vn,ve],Vi len] w fun e w'=>e = .returned (.tuple #[.int .u64 (td L s next fin len).1,Vi (td L s next fin len).2]) ∧ RowKit.Below w.heap.size w w'
structure AwakeC : Prop where
 least : akk 11
 differ : ah0 13
 relate : ahz 14
 check : akm 16
 count : akl 15
 accepts : acw 10
theorem fp : bk Tryz.prog 12 = true:=by kernel_rfl
theorem aha : bk Tryz.prog 11 = true:=by kernel_rfl
theorem ad3 : bk Tryz.prog 13 = true:=by kernel_rfl
theorem ad2 : bk Tryz.prog 14 = true:=by kernel_rfl
theorem jd : bk Tryz.prog 16 = true:=by kernel_rfl
theorem ahb : bk Tryz.prog 15 = true:=by kernel_rfl
theorem gd : bk Tryz.prog 10 = true:=by kernel_rfl
theorem acg (k : IntKind) (a b : Int) (z : Value) : Instr.fill (fun i=>some (i * 1,1)) (madeCells #[z] 2) [(0,.int k a),(1,.int k b)] = some #[.int k a,.int k b]:=by
 have h : ∀ a,(Value.int k a).cells = #[.int k a]:=fun _=>rfl;simp [Instr.fill,madeCells,h,Array.range,Array.foldl];rfl
theorem agv (a : Bool) (z : Value) : Instr.fill (fun i=>some (i * 1,1)) (madeCells #[z] 1) [(0,.bool a)] = some #[.bool a]:=by
 have h : ∀ b,(Value.bool b).cells = #[.bool b]:=fun _=>rfl;simp [Instr.fill,madeCells,h,Array.range,Array.foldl];rfl
theorem qw (w : World) (l : List Int) (n : Nat) (hn : n = l.length) (hI : ∀ x ∈ l,I64 x) (hm : l.length ≤ 9223372036854775807) : Sl (w.alloc (.cells (ints l).toArray 3)) (Vs w.heap.size n n) l PInt:=by
 subst hn;have R:=(Rows.nil w.heap.size w).lit (Nat.le_refl _) (ints l) 3 l.length (by simp) hm;exact (R.slI (i:=0) (xs:=l) (v:=Vs w.heap.size l.length l.length) (by simp [oI]) hI).1
theorem SlP.take {w : World} {g : Option Addr} {n c : Nat} {l : List (Int × Int)} (h : SlP w (.slice g n c) l) (k : Nat) (hk : k ≤ l.length) : SlP w (.slice g k c) (l.take k):=by
 obtain ⟨a,b,o,cap,e,h1,h2,h3,h4⟩:=h;simp only [Value.slice.injEq] at e;obtain ⟨rfl,rfl,rfl⟩:=e;have hl : (l.take k).length = k:=by simp; omega
 exact ⟨g,b,o,c,by rw [hl],fun h0=>h1 (by omega),by omega,h3,fun i hi=>by
  have hi' : i < l.length:=by omega
  rw [List.getElem_take];exact h4 i hi'⟩
theorem SlP.len {w : World} {v : Value} {l : List (Int × Int)} (h : SlP w v l) : ∃ g c,v = .slice g l.length c ∧ l.length ≤ c:=by
 obtain ⟨a,b,o,cap,e,h1,h2,h3,h4⟩:=h;exact ⟨a,cap,e,h2⟩
theorem aj0 (C : AwakeC) {w : World} {M1 M2 : Nat} {vn2 ve2 : Value} (hx2 : Box w M2 1 0 vn2 ve2) (hm2 : Ma w 1 0 allN allF vn2 ve2)
  {Q : Exit → Act → World → Prop} {a : Act} {ops : Array Oper} {id : Nat} (hops : Sym.da Tryz.f5.body 3 = some (id,ops))
  (hS : St Tryz.f5.ntmps a [(1,Vp M1),(2,Vi 0),(3,Vp M2)])
  (hq : ∀ vw a' w',St Tryz.f5.ntmps a' [(1,Vp M1),(2,Vi 0),(4,vw),(5,.bool false),(6,Vi 0)] → RowKit.Below w.heap.size w w' ∧ Sl w' vw [0] PInt → Q .normal a' w') : (Code.region id ops true).wp Tryz.prog Q a w:=by
 cases hops
 refine ep (α:=Value) 10 (fun vw=>[(1,Vp M1),(2,Vi 0),(4,vw),(5,.bool false),(6,Vi 0)]) (fun vw w'=>RowKit.Below w.heap.size w w' ∧ Sl w' vw [0] PInt) dc hS ?_ hq;have hy : RowKit.Below w.drew.heap.size w.drew w.drew:=RowKit.Below.refl _ _;have hkm:=fun w1 (h : RowKit.Below w.drew.heap.size w.drew w1)=>hm2.keep (show RowKit.Below w.heap.size w w1 from fe h)
 refine yT 1 af rfl (by kernel_rfl) hy rfl (exI ([Vi 1,Vi 0,vn2,ve2]) (anI rfl (anI (hx2.cells) rfl))) ?_;refine bo 0 (by kernel_rfl) (y_op 0 af rfl rfl rfl rfl ?_);refine anI fp ((eh _).mono ?_);rintro e w1 ⟨vn,ve,rfl,hm1,h1⟩;refine ⟨_,rfl,?_⟩;refine anI (.inr h1) ?_;refine bo 2 (by kernel_rfl) (y_op 2 af rfl rfl rfl rfl ?_);refine anI ad3 ((C.differ 1 0 1 0 vn ve vn2 ve2 fm allN g8 allF w1 hm1 (hkm w1 h1) (by decide) (by decide)).mono ?_);rintro e w2 ⟨vw,word,b,r,rfl,hs2,_,h2,hI⟩;obtain ⟨rfl,rfl,rfl⟩:=aa3 hI;refine ⟨_,rfl,?_⟩;have hy2:=ak h1 h2;refine anI (.inr hy2) ?_;refine yT 3 af rfl (by kernel_rfl) hy2 rfl (rfl) ?_;refine yT 4 af rfl (by kernel_rfl) hy2 rfl (rfl) ?_;refine yT 5 af rfl (by kernel_rfl) hy2 rfl (rfl) ?_;refine yT 6 af rfl (by kernel_rfl) hy2 rfl (rfl) ?_;refine yT 7 af rfl (by kernel_rfl) hy2 rfl (rfl) ?_;refine yT 8 af rfl (by kernel_rfl) hy2 rfl (rfl) ?_;refine yT 9 af rfl (by kernel_rfl) hy2 rfl (rfl) ?_;exact fc _ (by kernel_rfl) ⟨rfl,rfl,rfl,rfl,rfl,trivial⟩ ⟨fe hy2,hs2⟩
theorem ajz (C : AwakeC) {w : World} {M1 : Nat} {vn1 ve1 vw : Value} (hx1 : Box w M1 1 0 vn1 ve1) (hm1 : Ma w 1 0 twoN twoF vn1 ve1)
  {Q : Exit → Act → World → Prop} {a : Act} {ops : Array Oper} {id : Nat} (hops : Sym.da Tryz.f5.body 4 = some (id,ops))
  (hS : St Tryz.f5.ntmps a [(1,Vp M1),(2,Vi 0),(4,vw),(5,.bool false),(6,Vi 0)])
  (hq : ∀ vl a' w',St Tryz.f5.ntmps a' [(1,Vp M1),(2,Vi 0),(4,vw),(5,.bool false),(6,Vi 0),(7,vl),(8,Vi 0)] → RowKit.Below w.heap.size w w' ∧ SlP w' vl jh → Q .normal a' w') : (Code.region id ops true).wp Tryz.prog Q a w:=by
 cases hops
 refine ep (α:=Value) 8 (fun vl=>[(1,Vp M1),(2,Vi 0),(4,vw),(5,.bool false),(6,Vi 0),(7,vl),(8,Vi 0)]) (fun vl w'=>RowKit.Below w.heap.size w w' ∧ SlP w' vl jh) dc hS ?_ hq;have hy : RowKit.Below w.drew.heap.size w.drew w.drew:=RowKit.Below.refl _ _;have hkm:=fun w1 (h : RowKit.Below w.drew.heap.size w.drew w1)=>hm1.keep (show RowKit.Below w.heap.size w w1 from fe h)
 refine yT 1 af rfl (by kernel_rfl) hy rfl (exI ([Vi 1,Vi 0,vn1,ve1]) (anI rfl (anI (hx1.cells) rfl))) ?_;refine bo 0 (by kernel_rfl) (y_op 0 af rfl rfl rfl rfl ?_);refine anI fp ((eh _).mono ?_);rintro e w1 ⟨vn,ve,rfl,hme,h1⟩;refine ⟨_,rfl,?_⟩;refine anI (.inr h1) ?_;refine bo 2 (by kernel_rfl) (y_op 2 af rfl rfl rfl rfl ?_);refine anI ad2 ((C.relate 1 0 1 0 vn ve vn1 ve1 fm twoN g8 twoF w1 hme (hkm w1 h1) (by decide) (by decide)).mono ?_);rintro e w2 ⟨vl,l,r,rfl,hs2,h2,hI⟩;obtain ⟨rfl,rfl⟩:=aa2 hI;refine ⟨_,rfl,?_⟩;have hy2:=ak h1 h2;refine anI (.inr hy2) ?_;refine yT 3 af rfl (by kernel_rfl) hy2 rfl (rfl) ?_;refine yT 4 af rfl (by kernel_rfl) hy2 rfl (rfl) ?_;refine yT 5 af rfl (by kernel_rfl) hy2 rfl (rfl) ?_;refine yT 6 af rfl (by kernel_rfl) hy2 rfl (rfl) ?_;refine yT 7 af rfl (by kernel_rfl) hy2 rfl (rfl) ?_;exact fc _ (by kernel_rfl) ⟨rfl,rfl,rfl,rfl,rfl,rfl,rfl,trivial⟩ ⟨fe hy2,hs2⟩
set_option maxHeartbeats 2000000 in
theorem ajy (C : AwakeC) {w : World} {M1 : Nat} {vn1 ve1 vl : Value} (hx1 : Box w M1 1 0 vn1 ve1) (hm1 : Ma w 1 0 twoN twoF vn1 ve1) (hl : SlP w vl jh)
  {Q : Exit → Act → World → Prop} {a : Act} {ops : Array Oper} {id : Nat} (hops : Sym.da Tryz.f5.body 8 = some (id,ops))
  (hS : St Tryz.f5.ntmps a [(1,Vp M1),(7,vl),(74,.bool false)])
  (hq : ∀ a' w',St Tryz.f5.ntmps a' [(0,.bool true)] → RowKit.Below w.heap.size w w' → Q .normal a' w') : (Code.region id ops true).wp Tryz.prog Q a w:=by
 cases hops
 refine d5 25 [(0,.bool true)] (fun w'=>RowKit.Below w.heap.size w w') dc hS ?_ hq;have hy : RowKit.Below w.drew.heap.size w.drew w.drew:=RowKit.Below.refl _ _;have hkm:=fun w1 (h : RowKit.Below w.drew.heap.size w.drew w1)=>hm1.keep (show RowKit.Below w.heap.size w w1 from fe h)
 have hkl:=fun w1 (h : RowKit.Below w.drew.heap.size w.drew w1)=>hl.keep (show RowKit.Below w.heap.size w w1 from fe h)
 obtain ⟨gl,cl,rfl,hcl⟩:=hl.len;have hcl : 3 ≤ cl:=hcl;refine v7 0 1 (by kernel_rfl) (y_op 0 af rfl rfl rfl rfl ?_) (y_op 1 af rfl rfl rfl rfl ?_)
 ·
  refine anI fp ((eh _).mono ?_);rintro e wA1 ⟨vnA,veA,rfl,hmA,hA1⟩;refine ⟨_,rfl,?_⟩;have hyA1:=ak hy hA1;refine anI (.inr hyA1) ?_;refine bo 1 (by kernel_rfl) (y_op 1 af rfl rfl rfl rfl ?_);refine exI [(0,Vi 0),(1,Vi 0)] (exI _ (anI (anI rfl rfl) (anI (by decide) (anI (acg ..) ?_))));have hyA2:=hyA1.alloc hyA1.size (.cells #[Vi 0,Vi 0] 3);refine anI (.inr hyA2) ?_;have hsA : Sl _ (Vs wA1.heap.size 2 2) [0,0] PInt:=qw wA1 [0,0] 2 rfl (by simp [I64]) (by decide);replace hmA:=hmA.keep (ao wA1 (.cells #[Vi 0,Vi 0] 3));refine bo 2 (by kernel_rfl) (y_op 2 af rfl rfl rfl rfl ?_);have hacA:=C.accepts 1 0 vnA veA _ fm g8 [0,0] _ hmA hsA;rw [pq] at hacA;refine anI gd (hacA.mono ?_);rintro e wA3 ⟨rfl,hA3⟩;refine ⟨_,rfl,?_⟩;have hyA3:=ak hyA2 hA3;refine anI (.inr hyA3) ?_;refine yT 3 af rfl (by kernel_rfl) hyA3 rfl (rfl) ?_;refine v7 4 5 (by kernel_rfl) (y_op 4 af rfl rfl rfl rfl ?_) (y_op 5 af rfl rfl rfl rfl ?_)
  ·
   refine anI fp ((eh _).mono ?_);rintro e wB1 ⟨vnB,veB,rfl,hmB,hB1⟩;refine ⟨_,rfl,?_⟩;have hyB1:=ak hyA3 hB1;refine anI (.inr hyB1) ?_;refine bo 5 (by kernel_rfl) (y_op 5 af rfl rfl rfl rfl ?_);refine exI [(0,Vi (0))] (exI #[Vi (0)] (anI (anI rfl rfl) (anI (by decide) (anI (jv _ _ _) ?_))));have hyB2:=hyB1.alloc hyB1.size (.cells #[Vi 0] 3);refine anI (.inr hyB2) ?_;have hsB : Sl _ (Vs wB1.heap.size 1 1) [0] PInt:=qw wB1 [0] 1 rfl (by simp [I64]) (by decide);replace hmB:=hmB.keep (ao wB1 (.cells #[Vi 0] 3));refine bo 6 (by kernel_rfl) (y_op 6 af rfl rfl rfl rfl ?_);have hacB:=C.accepts 1 0 vnB veB _ fm g8 [0] _ hmB hsB;rw [jg] at hacB;refine anI gd (hacB.mono ?_);rintro e wB3 ⟨rfl,hB3⟩;refine ⟨_,rfl,?_⟩;have hyB3:=ak hyB2 hB3;refine anI (.inr hyB3) ?_;refine yT 7 af rfl (by kernel_rfl) hyB3 rfl (rfl) ?_;refine yT 8 af rfl (by kernel_rfl) hyB3 rfl (rfl) ?_;refine yT 9 af rfl (by kernel_rfl) hyB3 rfl (rfl) ?_;refine yT 11 af rfl (by kernel_rfl) hyB3 rfl (exI ([Vi 1,Vi 0,vn1,ve1]) (anI rfl (anI (hx1.cells) rfl))) ?_;refine yT 12 af rfl (by kernel_rfl) hyB3 rfl (rfl) ?_;refine bo 10 (by kernel_rfl) (y_op 10 af rfl rfl rfl rfl ?_);refine anI fp ((eh _).mono ?_);rintro e wC1 ⟨vnC,veC,rfl,hmC,hC1⟩;refine ⟨_,rfl,?_⟩;have hyC1:=ak hyB3 hC1;refine anI (.inr hyC1) ?_;refine bo 13 (by kernel_rfl) (y_op 13 af rfl rfl rfl rfl ?_);have hck:=C.check 1 0 1 0 vnC veC vn1 ve1 _ fm twoN g8 twoF jh wC1 hmC (hkm _ hyC1) (hkl _ hyC1);rw [kz] at hck;refine anI jd (hck.mono ?_);rintro e wC2 ⟨rfl,hC2⟩;refine ⟨_,rfl,?_⟩;have hyC2:=ak hyC1 hC2;refine anI (.inr hyC2) ?_;refine yT 14 af rfl (by kernel_rfl) hyC2 rfl (exI _ (anI (rfl) rfl)) ?_;refine yT 15 af rfl (by kernel_rfl) hyC2 rfl (rfl) ?_;refine yT 16 af rfl (by kernel_rfl) hyC2 rfl (rfl) ?_;refine yT 18 af rfl (by kernel_rfl) hyC2 rfl (exI ([Vi 1,Vi 0,vn1,ve1]) (anI rfl (anI (hx1.cells) rfl))) ?_;refine yT 19 af rfl (by kernel_rfl) hyC2 rfl (rfl) ?_;refine yT 20 af rfl (by kernel_rfl) hyC2 rfl (exI 0 (exI 2 (anI rfl (anI (exI _ (exI _ (anI rfl rfl))) (anI (by decide) (anI (by omega) (anI hcl rfl))))))) ?_;refine bo 17 (by kernel_rfl) (y_op 17 af rfl rfl rfl rfl ?_);refine anI fp ((eh _).mono ?_);rintro e wD1 ⟨vnD,veD,rfl,hmD,hD1⟩;refine ⟨_,rfl,?_⟩;have hyD1:=ak hyC2 hD1;refine anI (.inr hyD1) ?_;refine bo 21 (by kernel_rfl) (y_op 21 af rfl rfl rfl rfl ?_)
   have hsl : SlP wD1 (.slice (if cl = 0 then gl else gl.map (·.add (0 * 2))) (2 - 0) (cl - 0)) (jh.take 2):=by
    have:=(hkl _ hyD1).take 2 (by decide)
    rw [if_neg (by omega)]
    cases gl <;> simpa [Addr.add] using this
   have hck2:=C.check 1 0 1 0 vnD veD vn1 ve1 _ fm twoN g8 twoF (jh.take 2) wD1 hmD (hkm _ hyD1) hsl;rw [k7] at hck2;refine anI jd (hck2.mono ?_);rintro e wD2 ⟨rfl,hD2⟩;refine ⟨_,rfl,?_⟩;have hyD2:=ak hyD1 hD2;refine anI (.inr hyD2) ?_;refine yT 22 af rfl (by kernel_rfl) hyD2 rfl (exI _ (anI (rfl) rfl)) ?_;refine yT 23 af rfl (by kernel_rfl) hyD2 rfl (rfl) ?_;refine yT 24 af rfl (by kernel_rfl) hyD2 rfl (rfl) ?_;exact iq (by kernel_rfl) ⟨rfl,trivial⟩ (fe hyD2)
  ·
   refine exI [(0,Vi (0))] (exI #[Vi (0)] (anI (anI rfl rfl) (anI (by decide) (anI (jv _ _ _) ?_))));have hyB1:=hyA3.alloc hyA3.size (.cells #[Vi 0] 3);refine anI (.inr hyB1) ?_;have hsB : Sl _ (Vs ((wA3).heap.size) 1 1) [0] PInt:=qw (wA3) [0] 1 rfl (by simp [I64]) (by decide);refine bo 4 (by kernel_rfl) (y_op 4 af rfl rfl rfl rfl ?_);refine anI fp ((eh _).mono ?_);rintro e wB2 ⟨vnB,veB,rfl,hmB,hB2⟩;refine ⟨_,rfl,?_⟩;have hyB2:=ak hyB1 hB2;refine anI (.inr hyB2) ?_;replace hsB:=hsB.keep hB2 (fun _ _ h=>h);refine bo 6 (by kernel_rfl) (y_op 6 af rfl rfl rfl rfl ?_);have hacB:=C.accepts 1 0 vnB veB _ fm g8 [0] _ hmB hsB;rw [jg] at hacB;refine anI gd (hacB.mono ?_);rintro e wB3 ⟨rfl,hB3⟩;refine ⟨_,rfl,?_⟩;have hyB3:=ak hyB2 hB3;refine anI (.inr hyB3) ?_;refine yT 7 af rfl (by kernel_rfl) hyB3 rfl (rfl) ?_;refine yT 8 af rfl (by kernel_rfl) hyB3 rfl (rfl) ?_;refine yT 9 af rfl (by kernel_rfl) hyB3 rfl (rfl) ?_;refine yT 11 af rfl (by kernel_rfl) hyB3 rfl (exI ([Vi 1,Vi 0,vn1,ve1]) (anI rfl (anI (hx1.cells) rfl))) ?_;refine yT 12 af rfl (by kernel_rfl) hyB3 rfl (rfl) ?_;refine bo 10 (by kernel_rfl) (y_op 10 af rfl rfl rfl rfl ?_);refine anI fp ((eh _).mono ?_);rintro e wC1 ⟨vnC,veC,rfl,hmC,hC1⟩;refine ⟨_,rfl,?_⟩;have hyC1:=ak hyB3 hC1;refine anI (.inr hyC1) ?_;refine bo 13 (by kernel_rfl) (y_op 13 af rfl rfl rfl rfl ?_);have hck:=C.check 1 0 1 0 vnC veC vn1 ve1 _ fm twoN g8 twoF jh wC1 hmC (hkm _ hyC1) (hkl _ hyC1);rw [kz] at hck;refine anI jd (hck.mono ?_);rintro e wC2 ⟨rfl,hC2⟩;refine ⟨_,rfl,?_⟩;have hyC2:=ak hyC1 hC2;refine anI (.inr hyC2) ?_;refine yT 14 af rfl (by kernel_rfl) hyC2 rfl (exI _ (anI (rfl) rfl)) ?_;refine yT 15 af rfl (by kernel_rfl) hyC2 rfl (rfl) ?_;refine yT 16 af rfl (by kernel_rfl) hyC2 rfl (rfl) ?_;refine yT 18 af rfl (by kernel_rfl) hyC2 rfl (exI ([Vi 1,Vi 0,vn1,ve1]) (anI rfl (anI (hx1.cells) rfl))) ?_;refine yT 19 af rfl (by kernel_rfl) hyC2 rfl (rfl) ?_;refine yT 20 af rfl (by kernel_rfl) hyC2 rfl (exI 0 (exI 2 (anI rfl (anI (exI _ (exI _ (anI rfl rfl))) (anI (by decide) (anI (by omega) (anI hcl rfl))))))) ?_;refine bo 17 (by kernel_rfl) (y_op 17 af rfl rfl rfl rfl ?_);refine anI fp ((eh _).mono ?_);rintro e wD1 ⟨vnD,veD,rfl,hmD,hD1⟩;refine ⟨_,rfl,?_⟩;have hyD1:=ak hyC2 hD1;refine anI (.inr hyD1) ?_;refine bo 21 (by kernel_rfl) (y_op 21 af rfl rfl rfl rfl ?_)
   have hsl : SlP wD1 (.slice (if cl = 0 then gl else gl.map (·.add (0 * 2))) (2 - 0) (cl - 0)) (jh.take 2):=by
    have:=(hkl _ hyD1).take 2 (by decide)
    rw [if_neg (by omega)]
    cases gl <;> simpa [Addr.add] using this
   have hck2:=C.check 1 0 1 0 vnD veD vn1 ve1 _ fm twoN g8 twoF (jh.take 2) wD1 hmD (hkm _ hyD1) hsl;rw [k7] at hck2;refine anI jd (hck2.mono ?_);rintro e wD2 ⟨rfl,hD2⟩;refine ⟨_,rfl,?_⟩;have hyD2:=ak hyD1 hD2;refine anI (.inr hyD2) ?_;refine yT 22 af rfl (by kernel_rfl) hyD2 rfl (exI _ (anI (rfl) rfl)) ?_;refine yT 23 af rfl (by kernel_rfl) hyD2 rfl (rfl) ?_;refine yT 24 af rfl (by kernel_rfl) hyD2 rfl (rfl) ?_;exact iq (by kernel_rfl) ⟨rfl,trivial⟩ (fe hyD2)
 ·
  refine exI [(0,Vi 0),(1,Vi 0)] (exI _ (anI (anI rfl rfl) (anI (by decide) (anI (acg ..) ?_))));have hyA1:=hy.alloc hy.size (.cells #[Vi 0,Vi 0] 3);refine anI (.inr hyA1) ?_;have hsA : Sl _ (Vs ((w.drew).heap.size) 2 2) [0,0] PInt:=qw (w.drew) [0,0] 2 rfl (by simp [I64]) (by decide);refine bo 0 (by kernel_rfl) (y_op 0 af rfl rfl rfl rfl ?_);refine anI fp ((eh _).mono ?_);rintro e wA2 ⟨vnA,veA,rfl,hmA,hA2⟩;refine ⟨_,rfl,?_⟩;have hyA2:=ak hyA1 hA2;refine anI (.inr hyA2) ?_;replace hsA:=hsA.keep hA2 (fun _ _ h=>h);refine bo 2 (by kernel_rfl) (y_op 2 af rfl rfl rfl rfl ?_);have hacA:=C.accepts 1 0 vnA veA _ fm g8 [0,0] _ hmA hsA;rw [pq] at hacA;refine anI gd (hacA.mono ?_);rintro e wA3 ⟨rfl,hA3⟩;refine ⟨_,rfl,?_⟩;have hyA3:=ak hyA2 hA3;refine anI (.inr hyA3) ?_;refine yT 3 af rfl (by kernel_rfl) hyA3 rfl (rfl) ?_;refine v7 4 5 (by kernel_rfl) (y_op 4 af rfl rfl rfl rfl ?_) (y_op 5 af rfl rfl rfl rfl ?_)
  ·
   refine anI fp ((eh _).mono ?_);rintro e wB1 ⟨vnB,veB,rfl,hmB,hB1⟩;refine ⟨_,rfl,?_⟩;have hyB1:=ak hyA3 hB1;refine anI (.inr hyB1) ?_;refine bo 5 (by kernel_rfl) (y_op 5 af rfl rfl rfl rfl ?_);refine exI [(0,Vi (0))] (exI #[Vi (0)] (anI (anI rfl rfl) (anI (by decide) (anI (jv _ _ _) ?_))));have hyB2:=hyB1.alloc hyB1.size (.cells #[Vi 0] 3);refine anI (.inr hyB2) ?_;have hsB : Sl _ (Vs wB1.heap.size 1 1) [0] PInt:=qw wB1 [0] 1 rfl (by simp [I64]) (by decide);replace hmB:=hmB.keep (ao wB1 (.cells #[Vi 0] 3));refine bo 6 (by kernel_rfl) (y_op 6 af rfl rfl rfl rfl ?_);have hacB:=C.accepts 1 0 vnB veB _ fm g8 [0] _ hmB hsB;rw [jg] at hacB;refine anI gd (hacB.mono ?_);rintro e wB3 ⟨rfl,hB3⟩;refine ⟨_,rfl,?_⟩;have hyB3:=ak hyB2 hB3;refine anI (.inr hyB3) ?_;refine yT 7 af rfl (by kernel_rfl) hyB3 rfl (rfl) ?_;refine yT 8 af rfl (by kernel_rfl) hyB3 rfl (rfl) ?_;refine yT 9 af rfl (by kernel_rfl) hyB3 rfl (rfl) ?_;refine yT 11 af rfl (by kernel_rfl) hyB3 rfl (exI ([Vi 1,Vi 0,vn1,ve1]) (anI rfl (anI (hx1.cells) rfl))) ?_;refine yT 12 af rfl (by kernel_rfl) hyB3 rfl (rfl) ?_;refine bo 10 (by kernel_rfl) (y_op 10 af rfl rfl rfl rfl ?_);refine anI fp ((eh _).mono ?_);rintro e wC1 ⟨vnC,veC,rfl,hmC,hC1⟩;refine ⟨_,rfl,?_⟩;have hyC1:=ak hyB3 hC1;refine anI (.inr hyC1) ?_;refine bo 13 (by kernel_rfl) (y_op 13 af rfl rfl rfl rfl ?_);have hck:=C.check 1 0 1 0 vnC veC vn1 ve1 _ fm twoN g8 twoF jh wC1 hmC (hkm _ hyC1) (hkl _ hyC1);rw [kz] at hck;refine anI jd (hck.mono ?_);rintro e wC2 ⟨rfl,hC2⟩;refine ⟨_,rfl,?_⟩;have hyC2:=ak hyC1 hC2;refine anI (.inr hyC2) ?_;refine yT 14 af rfl (by kernel_rfl) hyC2 rfl (exI _ (anI (rfl) rfl)) ?_;refine yT 15 af rfl (by kernel_rfl) hyC2 rfl (rfl) ?_;refine yT 16 af rfl (by kernel_rfl) hyC2 rfl (rfl) ?_;refine yT 18 af rfl (by kernel_rfl) hyC2 rfl (exI ([Vi 1,Vi 0,vn1,ve1]) (anI rfl (anI (hx1.cells) rfl))) ?_;refine yT 19 af rfl (by kernel_rfl) hyC2 rfl (rfl) ?_;refine yT 20 af rfl (by kernel_rfl) hyC2 rfl (exI 0 (exI 2 (anI rfl (anI (exI _ (exI _ (anI rfl rfl))) (anI (by decide) (anI (by omega) (anI hcl rfl))))))) ?_;refine bo 17 (by kernel_rfl) (y_op 17 af rfl rfl rfl rfl ?_);refine anI fp ((eh _).mono ?_);rintro e wD1 ⟨vnD,veD,rfl,hmD,hD1⟩;refine ⟨_,rfl,?_⟩;have hyD1:=ak hyC2 hD1;refine anI (.inr hyD1) ?_;refine bo 21 (by kernel_rfl) (y_op 21 af rfl rfl rfl rfl ?_)
   have hsl : SlP wD1 (.slice (if cl = 0 then gl else gl.map (·.add (0 * 2))) (2 - 0) (cl - 0)) (jh.take 2):=by
    have:=(hkl _ hyD1).take 2 (by decide)
    rw [if_neg (by omega)]
    cases gl <;> simpa [Addr.add] using this
   have hck2:=C.check 1 0 1 0 vnD veD vn1 ve1 _ fm twoN g8 twoF (jh.take 2) wD1 hmD (hkm _ hyD1) hsl;rw [k7] at hck2;refine anI jd (hck2.mono ?_);rintro e wD2 ⟨rfl,hD2⟩;refine ⟨_,rfl,?_⟩;have hyD2:=ak hyD1 hD2;refine anI (.inr hyD2) ?_;refine yT 22 af rfl (by kernel_rfl) hyD2 rfl (exI _ (anI (rfl) rfl)) ?_;refine yT 23 af rfl (by kernel_rfl) hyD2 rfl (rfl) ?_;refine yT 24 af rfl (by kernel_rfl) hyD2 rfl (rfl) ?_;exact iq (by kernel_rfl) ⟨rfl,trivial⟩ (fe hyD2)
  ·
   refine exI [(0,Vi (0))] (exI #[Vi (0)] (anI (anI rfl rfl) (anI (by decide) (anI (jv _ _ _) ?_))));have hyB1:=hyA3.alloc hyA3.size (.cells #[Vi 0] 3);refine anI (.inr hyB1) ?_;have hsB : Sl _ (Vs ((wA3).heap.size) 1 1) [0] PInt:=qw (wA3) [0] 1 rfl (by simp [I64]) (by decide);refine bo 4 (by kernel_rfl) (y_op 4 af rfl rfl rfl rfl ?_);refine anI fp ((eh _).mono ?_);rintro e wB2 ⟨vnB,veB,rfl,hmB,hB2⟩;refine ⟨_,rfl,?_⟩;have hyB2:=ak hyB1 hB2;refine anI (.inr hyB2) ?_;replace hsB:=hsB.keep hB2 (fun _ _ h=>h);refine bo 6 (by kernel_rfl) (y_op 6 af rfl rfl rfl rfl ?_);have hacB:=C.accepts 1 0 vnB veB _ fm g8 [0] _ hmB hsB;rw [jg] at hacB;refine anI gd (hacB.mono ?_);rintro e wB3 ⟨rfl,hB3⟩;refine ⟨_,rfl,?_⟩;have hyB3:=ak hyB2 hB3;refine anI (.inr hyB3) ?_;refine yT 7 af rfl (by kernel_rfl) hyB3 rfl (rfl) ?_;refine yT 8 af rfl (by kernel_rfl) hyB3 rfl (rfl) ?_;refine yT 9 af rfl (by kernel_rfl) hyB3 rfl (rfl) ?_;refine yT 11 af rfl (by kernel_rfl) hyB3 rfl (exI ([Vi 1,Vi 0,vn1,ve1]) (anI rfl (anI (hx1.cells) rfl))) ?_;refine yT 12 af rfl (by kernel_rfl) hyB3 rfl (rfl) ?_;refine bo 10 (by kernel_rfl) (y_op 10 af rfl rfl rfl rfl ?_);refine anI fp ((eh _).mono ?_);rintro e wC1 ⟨vnC,veC,rfl,hmC,hC1⟩;refine ⟨_,rfl,?_⟩;have hyC1:=ak hyB3 hC1;refine anI (.inr hyC1) ?_;refine bo 13 (by kernel_rfl) (y_op 13 af rfl rfl rfl rfl ?_);have hck:=C.check 1 0 1 0 vnC veC vn1 ve1 _ fm twoN g8 twoF jh wC1 hmC (hkm _ hyC1) (hkl _ hyC1);rw [kz] at hck;refine anI jd (hck.mono ?_);rintro e wC2 ⟨rfl,hC2⟩;refine ⟨_,rfl,?_⟩;have hyC2:=ak hyC1 hC2;refine anI (.inr hyC2) ?_;refine yT 14 af rfl (by kernel_rfl) hyC2 rfl (exI _ (anI (rfl) rfl)) ?_;refine yT 15 af rfl (by kernel_rfl) hyC2 rfl (rfl) ?_;refine yT 16 af rfl (by kernel_rfl) hyC2 rfl (rfl) ?_;refine yT 18 af rfl (by kernel_rfl) hyC2 rfl (exI ([Vi 1,Vi 0,vn1,ve1]) (anI rfl (anI (hx1.cells) rfl))) ?_;refine yT 19 af rfl (by kernel_rfl) hyC2 rfl (rfl) ?_;refine yT 20 af rfl (by kernel_rfl) hyC2 rfl (exI 0 (exI 2 (anI rfl (anI (exI _ (exI _ (anI rfl rfl))) (anI (by decide) (anI (by omega) (anI hcl rfl))))))) ?_;refine bo 17 (by kernel_rfl) (y_op 17 af rfl rfl rfl rfl ?_);refine anI fp ((eh _).mono ?_);rintro e wD1 ⟨vnD,veD,rfl,hmD,hD1⟩;refine ⟨_,rfl,?_⟩;have hyD1:=ak hyC2 hD1;refine anI (.inr hyD1) ?_;refine bo 21 (by kernel_rfl) (y_op 21 af rfl rfl rfl rfl ?_)
   have hsl : SlP wD1 (.slice (if cl = 0 then gl else gl.map (·.add (0 * 2))) (2 - 0) (cl - 0)) (jh.take 2):=by
    have:=(hkl _ hyD1).take 2 (by decide)
    rw [if_neg (by omega)]
    cases gl <;> simpa [Addr.add] using this
   have hck2:=C.check 1 0 1 0 vnD veD vn1 ve1 _ fm twoN g8 twoF (jh.take 2) wD1 hmD (hkm _ hyD1) hsl;rw [k7] at hck2;refine anI jd (hck2.mono ?_);rintro e wD2 ⟨rfl,hD2⟩;refine ⟨_,rfl,?_⟩;have hyD2:=ak hyD1 hD2;refine anI (.inr hyD2) ?_;refine yT 22 af rfl (by kernel_rfl) hyD2 rfl (exI _ (anI (rfl) rfl)) ?_;refine yT 23 af rfl (by kernel_rfl) hyD2 rfl (rfl) ?_;refine yT 24 af rfl (by kernel_rfl) hyD2 rfl (rfl) ?_;exact iq (by kernel_rfl) ⟨rfl,trivial⟩ (fe hyD2)
theorem zf (C : AwakeC) (w : World) : Calls Tryz.prog 5 #[] w fun e w'=>e = .returned (.bool true) ∧ RowKit.Below w.heap.size w w':=by
 refine Sym.c8 (args:=[]) Tryz.func5 rfl rfl rfl (fun a0 hS0=>?_);refine wp_seq (ai [(0,.bool false)] (· = w) af hS0 ?_ (fun a wc hS hw=>?_))
 ·repeat refine zX rfl ?_
  exact aj ⟨⟨rfl,trivial⟩,rfl⟩
 subst hw;refine wp_seq (bg (α:=Nat × Value × Value) (fun x=>[(1,Vp x.1),(2,Vi 0)]) (fun x w'=>RowKit.Below wc.heap.size wc w' ∧ Box w' x.1 1 0 x.2.1 x.2.2 ∧ Ma w' 1 0 twoN twoF x.2.1 x.2.2) af hS ?_ (fun x a w1 hS h1=>?_))
 ·refine zF rfl (fp) (eh _) ?_;rintro e w1 ⟨vn,ve,rfl,hm1,h1⟩;refine ⟨_,rfl,?_⟩;refine zF rfl (aha) (C.least 1 0 vn ve fm g8 w1 hm1 (by decide)) ?_;rintro e w2 ⟨L',s',r,vn',ve',n',f',rfl,hm2,h2,hI⟩;obtain ⟨rfl,rfl,rfl,rfl,rfl⟩:=adv hI;refine ⟨_,rfl,?_⟩;have ho:=OwnB.new w2 [Vi 0,Vi 0,.slice none 0 0,.slice none 0 0] 25;have hb2:=ak h1 h2;have hb3:=ak hb2 (ao w2 (.cells #[Vi 0,Vi 0,.slice none 0 0,.slice none 0 0] 25));have hg:=bz w2.heap.size [Vi 1,Vi 0,vn',ve'] 0 (w2.alloc (.cells #[Vi 0,Vi 0,.slice none 0 0,.slice none 0 0] 25));have hB4:=a6 (w0:=w2) (ao w2 (.cells #[Vi 0,Vi 0,.slice none 0 0,.slice none 0 0] 25)) hg (fun k hk=>by cases hk; exact Nat.le_refl _);have hoF : OwnB _ w2.heap.size 25 [Vi 1,Vi 0,vn',ve']:=ho.sets (us:=[Vi 1,Vi 0,vn',ve']) rfl;have hm4:=hm2.keep hB4;obtain ⟨_,_,rfl⟩:=hm2.n.len;obtain ⟨_,_,rfl⟩:=hm2.e.len
  repeat refine zX rfl ?_
  refine zB rfl ?_;refine cj rfl rfl (anI rfl (anI rfl (anI (b0 ho) ?_)))
  repeat refine zX rfl ?_
  exact aj ⟨(w2.heap.size,_,_),⟨rfl,rfl,trivial⟩,ak hb2 hB4,⟨hoF.cell (i:=0) rfl,hoF.cell (i:=1) rfl,hoF.cell (i:=2) rfl,hoF.cell (i:=3) rfl⟩,hm4⟩
 obtain ⟨M1,vn1,ve1⟩:=x;obtain ⟨hB,hx1,hm1⟩:=h1;dsimp only at hS hx1 hm1;refine wp_seq (bg (α:=Nat × Value × Value) (fun x=>[(1,Vp M1),(2,Vi 0),(3,Vp x.1)]) (fun x w'=>RowKit.Below w1.heap.size w1 w' ∧ Box w' x.1 1 0 x.2.1 x.2.2 ∧ Ma w' 1 0 allN allF x.2.1 x.2.2) af hS ?_ (fun x a w2 hS h2=>?_))
 ·have R0:=Rows.nil w1.heap.size w1;have R1:=R0.lit (Nat.le_refl _) [Vi 0] 3 1 rfl (by decide);obtain ⟨w2,hw2⟩ : ∃ w2,w1.alloc (.cells #[Vi 0] 3) = w2:=⟨_,rfl⟩;have hB2 : RowKit.Below w1.heap.size w1 w2:=by rw [← hw2]; exact ao _ _
  rw [show w1.alloc (.cells [Vi 0].toArray 3) = w2 from hw2] at R1
  have R2:=R1.lit hB2.size [Vs w1.heap.size 1 1] 34 1 rfl (by decide);obtain ⟨w3,hw3⟩ : ∃ w3,w2.alloc (.cells #[Vs w1.heap.size 1 1] 34) = w3:=⟨_,rfl⟩;have hB3 : RowKit.Below w1.heap.size w1 w3:=ak hB2 (by rw [← hw3]; exact ao _ _);rw [show w2.alloc (.cells [Vs w1.heap.size 1 1].toArray 34) = w3 from hw3] at R2
  have R3:=R2.lit hB3.size [.bool true] 4 1 rfl (by decide);obtain ⟨w4,hw4⟩ : ∃ w4,w3.alloc (.cells #[.bool true] 4) = w4:=⟨_,rfl⟩;have hB4 : RowKit.Below w1.heap.size w1 w4:=ak hB3 (by rw [← hw4]; exact ao _ _);rw [show w3.alloc (.cells [Value.bool true].toArray 4) = w4 from hw4] at R3
  have hn:=R3.slRows (i:=1) (vs:=[Vs w1.heap.size 1 1]) (next:=allN) rfl rfl (fun j h1 h2=>by
   match j,h1 with
   | 0,_=>exact ⟨2,rfl,fun x hx=>by simp [allN] at hx; subst hx; exact ⟨by decide,by decide⟩⟩)
  have he:=R3.slB (i:=0) (xs:=allF) rfl;have hma : Ma w4 1 0 allN allF (Vs w2.heap.size 1 1) (Vs w3.heap.size 1 1):=⟨hn.1,he.1,⟨by decide,by decide⟩,⟨by decide,by decide⟩,hn.2,he.2⟩;have ho:=OwnB.new w4 [Vi 0,Vi 0,.slice none 0 0,.slice none 0 0] 25;have hg:=bz w4.heap.size [Vi 1,Vi 0,Vs w2.heap.size 1 1,Vs w3.heap.size 1 1] 0 (w4.alloc (.cells #[Vi 0,Vi 0,.slice none 0 0,.slice none 0 0] 25));have hB6:=a6 (w0:=w4) (ao w4 (.cells #[Vi 0,Vi 0,.slice none 0 0,.slice none 0 0] 25)) hg (fun k hk=>by cases hk; exact Nat.le_refl _);have hoF : OwnB _ w4.heap.size 25 [Vi 1,Vi 0,Vs w2.heap.size 1 1,Vs w3.heap.size 1 1]:=ho.sets (us:=[Vi 1,Vi 0,Vs w2.heap.size 1 1,Vs w3.heap.size 1 1]) rfl;refine b8 rfl rfl rfl ?_;refine exI [(0,Vi (0))] (exI #[Vi (0)] (anI (anI rfl rfl) (anI (by decide) (anI (jv _ _ _) ?_))));rw [hw2];refine b8 rfl rfl rfl ?_;refine exI [(0,Vs w1.heap.size 1 1)] (exI #[Vs w1.heap.size 1 1] (anI (anI rfl rfl) (anI (by decide) (anI (uh _ _ _ _) ?_))));rw [hw3];refine b8 rfl rfl rfl ?_;refine exI [(0,.bool true)] (exI _ (anI (anI rfl rfl) (anI (by decide) (anI (agv ..) ?_))));rw [hw4]
  repeat refine zX rfl ?_
  refine zB rfl ?_;refine cj rfl rfl (anI rfl (anI rfl (anI (b0 ho) ?_)))
  repeat refine zX rfl ?_
  exact aj ⟨(w4.heap.size,_,_),⟨rfl,rfl,rfl,trivial⟩,ak hB4 hB6,⟨hoF.cell (i:=0) rfl,hoF.cell (i:=1) rfl,hoF.cell (i:=2) rfl,hoF.cell (i:=3) rfl⟩,hma.keep hB6⟩
 obtain ⟨M2,vn2,ve2⟩:=x;obtain ⟨hB2,hx2,hm2⟩:=h2;dsimp only at hS hx2 hm2;replace hx1:=hx1.keep hB2;replace hm1:=hm1.keep hB2;replace hB:=ak hB hB2;clear hB2;refine wp_seq (aj0 C hx2 hm2 (by rfl) hS (fun vw a w3 hS h3=>?_));obtain ⟨hB3,hw3⟩:=h3;replace hx1:=hx1.keep hB3;replace hm1:=hm1.keep hB3;replace hB:=ak hB hB3;clear hB3 hx2 hm2;refine wp_seq (ajz C hx1 hm1 (by rfl) hS (fun vl a w4 hS h4=>?_));obtain ⟨hB4,hl4⟩:=h4;replace hx1:=hx1.keep hB4;replace hm1:=hm1.keep hB4;replace hw3:=hw3.keep hB4 (fun _ _ h=>h);replace hB:=ak hB hB4;clear hB4;refine wp_seq (ai [(1,Vp M1),(2,Vi 0),(4,vw),(5,.bool false),(6,Vi 0),(7,vl),(8,Vi 0),(9,.int .u64 1),(10,Vi 0)] (fun w'=>RowKit.Below w4.heap.size w4 w') af hS ?_ (fun a w5 hS hw=>?_))
 ·refine zF rfl (fp) (eh _) ?_;rintro e w5 ⟨vn,ve,rfl,hm5,h5⟩;refine ⟨_,rfl,?_⟩;have hc:=C.count 1 0 4 vn ve fm g8 w5 hm5 ⟨by decide,by decide⟩ (by decide);rw [adw] at hc;refine zF rfl (ahb) (hc) ?_;rintro e w6 ⟨rfl,h6⟩;refine ⟨_,rfl,?_⟩
  repeat refine zX rfl ?_
  exact aj ⟨⟨rfl,rfl,rfl,rfl,rfl,rfl,rfl,rfl,rfl,trivial⟩,ak h5 h6⟩
 replace hx1:=hx1.keep hw;replace hm1:=hm1.keep hw;replace hw3:=hw3.keep hw (fun _ _ h=>h);replace hl4:=hl4.keep hw;replace hB:=ak hB hw;clear hw;refine wp_seq (wp_seq (ai [(1,Vp M1),(7,vl),(74,.bool false)] (· = w5) af hS ?_ (fun a w6 hS hw=>?_)))
 ·obtain ⟨gw,cw,rfl⟩:=hw3.len;obtain ⟨gl,cl,rfl,_⟩:=hl4.len;obtain ⟨gn,cn,hvn⟩:=hm1.n.len
  repeat refine zX rfl ?_
  refine zC rfl (rfl) ?_
  repeat refine zX rfl ?_
  refine zC rfl (rfl) ?_
  repeat refine zX rfl ?_
  refine zC rfl (rfl) ?_
  repeat refine zX rfl ?_
  refine zC rfl (rfl) ?_
  repeat refine zX rfl ?_
  refine zL rfl (hvn ▸ hx1.c2) ?_
  repeat refine zX rfl ?_
  refine zC rfl (rfl) ?_
  repeat refine zX rfl ?_
  refine zC rfl (rfl) ?_
  repeat refine zX rfl ?_
  refine zC rfl (rfl) ?_
  repeat refine zX rfl ?_
  refine zC rfl (rfl) ?_
  repeat refine zX rfl ?_
  exact aj ⟨⟨rfl,rfl,rfl,trivial⟩,rfl⟩
 subst hw;refine cond hS rfl (fun hT=>by cases hT) (fun _=>?_);refine wp_skip ?_;refine wp_seq (ajy C hx1 hm1 hl4 (by rfl) hS (fun a w7 hS h7=>?_));refine wp_ret ?_
 repeat first|refine a8 ?_|refine am ?_
 exact ret1 hS rfl rfl ⟨rfl,ak hB h7⟩
end
section
open Go Sym
theorem ack : bk Tryz.prog 5 = true:=by kernel_rfl
theorem MaIn.copy {w : World} {L s : Int} {next : List (List Int)} {fin : List Bool} {vn ve : Value} (h : MaIn w L s next fin vn ve) {w1 : World} (hb : RowKit.Below w.heap.size w w1) :
  Calls Tryz.prog 8 #[.agg #[Vi L,Vi s,vn,ve]] w1 fun e w'=>∃ vn' ve',e = .returned (.agg #[Vi L,Vi s,vn',ve']) ∧ OwnM w1.heap.size w' next fin vn' ve' ∧ RowKit.Below w1.heap.size w1 w':=
 ajt L s vn ve next fin w1 (h.ma.keep hb) (Nat.le_trans h.fb (by decide)) (fun r hr=>Nat.le_trans (h.rb r hr) (by decide)) (Nat.le_trans h.nb (by decide))
end
section
open Go Sym
theorem agy : bk Tryz.prog 4 = true:=by kernel_rfl
end
section
open Go Sym
end
section
open Go Sym
def d6 (l : List (Int × Int)) : List Value:=l.flatMap fun p=>[Vi p.1,Vi p.2]
theorem pc (l : List (Int × Int)) : (d6 l).length = l.length * 2:=by
 induction l with
 | nil=>rfl
 | cons p r ih=>simp only [d6,List.flatMap_cons,List.length_append,List.length_cons,List.length_nil] at ih ⊢; omega
theorem q6 (l : List (Int × Int)) (p : Int × Int) : d6 l ++ [Vi p.1,Vi p.2] = d6 (l ++ [p]):=by simp [d6]
theorem fill2 (a b : Value) (cs : Array Value) (hs : cs.size = 2) : Instr.fill (fun i=>some (i * 2,2)) (madeCells cs 2) [(0,.agg #[a,b])] = some #[a,b]:=by
 have h : (Value.agg #[a,b]).cells = #[a,b]:=rfl;simp [Instr.fill,madeCells,h,hs,Array.range,Array.foldl];rfl
theorem fw (v : Value) : v.ownBlock = none ∨ v.ownBlock ≠ none:=by
 cases v.ownBlock
 ·exact .inl rfl
 ·exact .inr (by simp)
theorem ret0 {P : Program} {N : Nat} {fn : Func} {R : Ending → World → Prop} {a : Act} {E : Env} {w : World} (h : St N a E) (hr : fn.results = #[]) (hR : R (.returned (.tuple #[])) w) : bodyPost P fn R .normal a w:=
 ⟨h.defers,_,by simp [results,hr],hR⟩
end
section
open Go Sym
def newP (w : World) (a b : Int) : World:=(w.alloc (.cells #[Vi 0,Vi 0] 83)).setCells w.heap.size 0 [Vi a,Vi b]
theorem mq (w : World) (a b : Int) : RowKit.Below w.heap.size w (newP w a b):=by
 have h1:=ao w (.cells #[Vi 0,Vi 0] 83);exact a6 h1 (bz w.heap.size _ 0 _) (fun k hk=>by cases hk; exact Nat.le_refl _)
theorem rf (w : World) (a b : Int) : BoxP (newP w a b) w.heap.size a b:=by
 have h:=(OwnB.new w [Vi 0,Vi 0] 83).sets (us:=[Vi a,Vi b]) rfl;exact ⟨h.cell (i:=0) rfl,h.cell (i:=1) rfl⟩
theorem fj {w : World} {b : Nat} {T : TypeId} {v0 v1 : Value} (h : OwnB w b T [v0,v1]) : ∀ j,j < 2 → (w.cell? ⟨b,0 + j,none⟩).isSome = true ∧ w.frozen? ⟨b,0 + j,none⟩ = false:=fun j hj=>by
 rw [Nat.zero_add];refine ⟨?_,h.free j⟩;have : [v0,v1][j]? = some ([v0,v1][j]):=List.getElem?_eq_getElem (by simpa using hj);rw [h.cell this]; rfl
theorem ze {m1 m2 : Int} {l : List (Int × Int)} {k : Nat} (hk : k < l.length) (h : badM m1 m2 l k = false) : -1 ≤ l[k].1 ∧ l[k].1 < m1 ∧ -1 ≤ l[k].2 ∧ l[k].2 < m2:=by
 rw [badM,badP,show l.getD k (0,0) = l[k] by simp [List.getD_eq_getElem?_getD,hk]] at h;simp only [Bool.or_eq_false_iff,decide_eq_false_iff_not] at h;omega
end
section
open Go Sym
theorem cut {P : Program} {F : Act → World → Prop} {Q : Exit → Act → World → Prop} {c : Code} {a : Act} {w : World} (h : c.wp P (Only F) a w) (hq : ∀ a' w',F a' w' → Q .normal a' w') : c.wp P Q a w:=
 wp_mono h (fun e a' w' h=>by
  cases e with
  | normal=>exact hq a' w' h
  | _=>exact h.elim)
end
section
open Go Sym
theorem aiu (L : Int) (w : World) :
  Calls Tryz.prog 52 #[Vi L] w fun e w'=>e = .returned (.agg #[Vi L,Vi (-1),.slice none 0 0,.slice none 0 0]) ∧ RowKit.Below w.heap.size w w':=by
 refine Sym.c8 (args:=[Vi L]) Tryz.func52 rfl rfl rfl (fun a0 hS0=>?_);refine wp_seq (ai [(0,Vi L),(2,Vp w.heap.size)] (· = w.alloc (.cells #[Vi 0,Vi 0,.slice none 0 0,.slice none 0 0] 25)) af hS0 ?_ (fun a wc hS hw=>?_))
 ·refine zB rfl ?_
  repeat refine zX rfl ?_
  exact aj ⟨⟨rfl,rfl,trivial⟩,rfl⟩
 have hB : RowKit.Below w.heap.size w wc:=by rw [hw]; exact ao _ _
 have ho : OwnB wc w.heap.size 25 [Vi 0,Vi 0,.slice none 0 0,.slice none 0 0]:=by rw [hw]; exact OwnB.new _ _ _
 clear hw;refine wp_seq (ai [(2,Vp w.heap.size)] (· = wc.setCells w.heap.size 0 [Vi L,Vi (-1),.slice none 0 0,.slice none 0 0]) af hS ?_ (fun a w2 hS hw=>?_))
 ·repeat refine zX rfl ?_
  refine cj rfl rfl (anI rfl (anI rfl (anI (b0 ho) ?_)));exact aj ⟨⟨rfl,trivial⟩,rfl⟩
 have hoF : OwnB w2 w.heap.size 25 [Vi L,Vi (-1),.slice none 0 0,.slice none 0 0]:=by rw [hw]; exact ho.sets rfl
 have hB2 : RowKit.Below w.heap.size w w2:=by rw [hw]; exact a6 hB (bz _ _ 0 _) (fun k hk=>by cases hk; exact Nat.le_refl _)
 refine wp_ret ?_
 repeat first|refine a8 ?_|refine am ?_
 refine wl af hS rfl rfl rfl rfl (o:=0) (vs:=[Vi L,Vi (-1),.slice none 0 0,.slice none 0 0]) ⟨hoF.cell (i:=0) rfl,hoF.cell (i:=1) rfl,hoF.cell (i:=2) rfl,hoF.cell (i:=3) rfl,trivial⟩ rfl ⟨rfl,hB2⟩
set_option maxHeartbeats 1000000 in
theorem aht (L s : Int) (vn ve vc : Value) (next : List (List Int)) (fin : List Bool) (cls : List Int) (p q : Nat) (w : World) (hm : Ma w L s next fin vn ve) (hs : Shape L s next fin) (hc : Sl w vc cls PInt) (hcl : cls.length = next.length) (hp : p < next.length) (hq : q < next.length) :
  Calls Tryz.prog 81 #[.agg #[Vi L,Vi s,vn,ve],vc,Vi p,Vi q] w fun e w'=>e = .returned (.bool (gx next cls p q L.toNat)) ∧ RowKit.Below w.heap.size w w':=by
 refine Sym.c8 (args:=[.agg #[Vi L,Vi s,vn,ve],vc,Vi p,Vi q]) Tryz.func81 rfl rfl rfl (fun a0 hS0=>?_);obtain ⟨M,hM⟩ : ∃ M,M = w.heap.size:=⟨_,rfl⟩;refine wp_seq (ai [(1,vc),(2,Vi p),(3,Vi q),(4,Vp M)] (· = w.alloc (.cells #[Vi L,Vi s,vn,ve] 25)) af hS0 ?_ (fun a wc hS hw=>?_))
 ·subst hM;refine zB rfl ?_
  repeat refine zX rfl ?_
  exact aj ⟨⟨rfl,rfl,rfl,rfl,trivial⟩,rfl⟩
 have hB : RowKit.Below w.heap.size w wc:=by rw [hw]; exact ao _ _
 have hx : Box wc M L s vn ve:=by rw [hw,hM]; exact Box.new _ _ _ _ _ _
 clear hw hM;replace hm:=hm.keep hB;replace hc:=hc.keep hB (fun _ _ h=>h);obtain ⟨ac,bc,oc,cc,rfl,c1,c2,c3,c4⟩:=hc;obtain ⟨_,hcp,rfl,-⟩:=c4 p (by omega);obtain ⟨_,hcq,rfl,-⟩:=c4 q (by omega);obtain rfl:=c1 (by omega);have hgp : cls.getD p 0 = cls[p]'(by omega):=by simp [List.getD_eq_getElem?_getD,show p < cls.length by omega]
 have hgq : cls.getD q 0 = cls[q]'(by omega):=by simp [List.getD_eq_getElem?_getD,show q < cls.length by omega]
 refine wp_seq (wp_seq (b6 [(1,.slice (some ⟨bc,oc,none⟩) cls.length cc),(2,Vi p),(3,Vi q),(4,Vp M),(20,.bool (decide (cls.getD p 0 ≠ cls.getD q 0)))] af dc (by kernel_rfl) hS ?_ (fun a w2 hS hw=>?_)))
 ·rw [hgp,hgq]
  repeat refine qX rfl ?_
  refine qI rfl (rfl) ((by omega : p < cls.length)) ?_;refine qL rfl (hcp) ?_
  repeat refine qX rfl ?_
  refine qI rfl (rfl) ((by omega : q < cls.length)) ?_;refine qL rfl (hcq) ?_;refine qC rfl (rfl) ?_
  repeat refine qX rfl ?_
  exact fa ⟨rfl,rfl,rfl,rfl,rfl,trivial⟩
 replace hx:=hx.keep hw;replace hm:=hm.keep hw;replace hB:=ak hB hw
 have c4' : ∀ i (h : i < cls.length),w2.cell? ⟨bc,oc + i,none⟩ = some (Vi cls[i]):=fun i h=>by
  obtain ⟨_,h1,rfl,-⟩:=c4 i h;exact keep hw h1
 clear c4 hcp hcq hw;refine cond hS rfl (fun hT=>?_) (fun hF=>?_)
 ·refine wp_seq (ai [(8,.bool false)] (· = w2) af hS ?_ (fun a w3 hS hw=>?_))
  ·repeat refine zX rfl ?_
   exact aj ⟨⟨rfl,trivial⟩,rfl⟩
  subst hw;refine wp_ret ?_
  repeat first|refine a8 ?_|refine am ?_
  exact ret1 hS rfl rfl ⟨by rw [gx,decide_eq_false (of_decide_eq_true hT),Bool.false_and],hB⟩
 have hal : gx next cls p q L.toNat = (List.range L.toNat).all fun c=>decide (dr cls ((next.getD p []).getD c (-1)) = dr cls ((next.getD q []).getD c (-1))):=by
  rw [gx,decide_eq_true (Decidable.not_not.1 (of_decide_eq_false hF)),Bool.true_and]
 refine wp_skip ?_;refine wp_seq (wp_seq (ai [(1,.slice (some ⟨bc,oc,none⟩) cls.length cc),(2,Vi p),(3,Vi q),(4,Vp M),(9,Vi 0)] (· = w2) af hS ?_ (fun a w3 hS hw=>?_)))
 ·repeat refine zX rfl ?_
  exact aj ⟨⟨rfl,rfl,rfl,rfl,rfl,trivial⟩,rfl⟩
 subst hw
 refine wp_block (cz hS (fun g E wr=>∃ c : Nat,(c : Int) ≤ L ∧ g = L.toNat - c ∧ E = [(1,.slice (some ⟨bc,oc,none⟩) cls.length cc),(2,Vi p),(3,Vi q),(4,Vp M),(9,Vi c)] ∧ wr = w3 ∧ ∀ d : Nat,d < c → dr cls ((next.getD p []).getD d (-1)) = dr cls ((next.getD q []).getD d (-1)))
  L.toNat ⟨0,hs.L0,rfl,rfl,rfl,fun d hd=>by omega⟩ ?_)
 rintro g E wr a1 ⟨c,hcL,rfl,rfl,rfl,hgo⟩ hS;refine wp_seq (wp_seq (ai [(1,.slice (some ⟨bc,oc,none⟩) cls.length cc),(2,Vi p),(3,Vi q),(4,Vp M),(9,Vi c),(24,.bool (decide ((c : Int) < L)))] (· = wr) af hS ?_ (fun a w4 hS hw=>?_)))
 ·repeat refine zX rfl ?_
  refine zL rfl (hx.c0) ?_;refine zC rfl (rfl) ?_
  repeat refine zX rfl ?_
  exact aj ⟨⟨rfl,rfl,rfl,rfl,rfl,rfl,trivial⟩,rfl⟩
 subst hw;refine cond hS rfl (fun hT=>?_) (fun hF=>?_)
 case refine_2=>
  refine wp_exit ?_
  repeat first|refine bf ?_|refine ba ?_|refine az rfl ?_
  refine wp_seq (ai [(8,.bool true)] (· = w4) af hS ?_ (fun a w5 hS hw=>?_))
  ·repeat refine zX rfl ?_
   exact aj ⟨⟨rfl,trivial⟩,rfl⟩
  subst hw;refine wp_ret ?_
  repeat first|refine a8 ?_|refine am ?_
  refine ret1 hS rfl rfl ⟨?_,hB⟩;rw [hal,List.all_eq_true.2 (fun d hd=>decide_eq_true (hgo d (by have:=List.mem_range.1 hd; have:=of_decide_eq_false hF; omega)))]
 have hcl1 : (c : Int) < L:=of_decide_eq_true hT;obtain ⟨an,bn,on,cn,hvn,n1,n2,n3,n4⟩:=id hm.n;subst hvn;obtain rfl:=n1 (by omega);obtain ⟨up,hup,hrp,-⟩:=n4 p hp;obtain ⟨uq,huq,hrq,-⟩:=n4 q hq;obtain ⟨ap,bp,op,cp,rfl,p1,p2,p3,p4⟩:=hrp;obtain ⟨aq,bq,oq,cq,rfl,q1,q2,q3,q4⟩:=hrq;obtain ⟨hlp,hvp⟩:=hs.rows p hp;obtain ⟨hlq,hvq⟩:=hs.rows q hq;have hcp : c < next[p].length:=by omega
 have hcq : c < next[q].length:=by omega
 obtain rfl:=p1 (by omega);obtain rfl:=q1 (by omega);obtain ⟨_,hdp,rfl,-⟩:=p4 c hcp;obtain ⟨_,hdq,rfl,-⟩:=q4 c hcq;have gp : (next.getD p []).getD c (-1) = next[p][c]:=by simp [List.getD_eq_getElem?_getD,hp,hcp]
 have gq : (next.getD q []).getD c (-1) = next[q][c]:=by simp [List.getD_eq_getElem?_getD,hq,hcq]
 obtain ⟨x,hxv⟩ : ∃ x,next[p][c] = x:=⟨_,rfl⟩;obtain ⟨y,hyv⟩ : ∃ y,next[q][c] = y:=⟨_,rfl⟩;have hxr:=hvp c hcp;have hyr:=hvq c hcq;rw [hxv] at hdp gp hxr;rw [hyv] at hdq gq hyr;clear p4 q4 n4 hvp hvq;refine wp_skip ?_;refine wp_seq (wp_block ?_);refine wp_seq (ai [(1,.slice (some ⟨bc,oc,none⟩) cls.length cc),(2,Vi p),(3,Vi q),(4,Vp M),(9,Vi c),(10,Vi (-1)),(11,Vi (-1))] (· = w4) af hS ?_ (fun a w5 hS hw=>?_))
 ·repeat refine zX rfl ?_
  exact aj ⟨⟨rfl,rfl,rfl,rfl,rfl,rfl,rfl,trivial⟩,rfl⟩
 subst hw;refine wp_seq (cut (F:=fun a' w'=>St Tryz.f81.ntmps a' [(1,.slice (some ⟨bc,oc,none⟩) cls.length cc),(2,Vi p),(3,Vi q),(4,Vp M),(9,Vi c),(10,Vi (dr cls x)),(11,Vi (-1))] ∧ w' = w5) ?_ ?_)
 ·refine wp_seq (ai [(1,.slice (some ⟨bc,oc,none⟩) cls.length cc),(2,Vi p),(3,Vi q),(4,Vp M),(9,Vi c),(10,Vi (-1)),(11,Vi (-1)),(35,.bool (decide (0 ≤ x)))] (· = w5) af hS ?_ (fun a w6 hS hw=>?_))
  ·repeat refine zX rfl ?_
   refine zL rfl (hx.c2) ?_
   repeat refine zX rfl ?_
   refine zI rfl (rfl) (hp) ?_;refine zL rfl (hup) ?_
   repeat refine zX rfl ?_
   refine zI rfl (rfl) (hcp) ?_;refine zL rfl (hdp) ?_;refine zC rfl (rfl) ?_
   repeat refine zX rfl ?_
   exact aj ⟨⟨rfl,rfl,rfl,rfl,rfl,rfl,rfl,rfl,trivial⟩,rfl⟩
  subst hw;refine cond hS rfl (fun hT=>?_) (fun hF=>?_)
  ·have h0:=of_decide_eq_true hT;obtain ⟨z,rfl⟩:=Int.eq_ofNat_of_zero_le h0;have hz : z < cls.length:=by omega
   refine ai [(1,.slice (some ⟨bc,oc,none⟩) cls.length cc),(2,Vi p),(3,Vi q),(4,Vp M),(9,Vi c),(10,Vi (dr cls z)),(11,Vi (-1))] (· = w6) af hS ?_ (fun a w7 hS hw=>⟨hS,hw⟩);have hcz : dr cls (z : Int) = cls[z]:=by simp [dr,List.getD_eq_getElem?_getD,hz]
   rw [hcz]
   repeat refine zX rfl ?_
   refine zL rfl (hx.c2) ?_
   repeat refine zX rfl ?_
   refine zI rfl (rfl) (hp) ?_;refine zL rfl (hup) ?_
   repeat refine zX rfl ?_
   refine zI rfl (rfl) (hcp) ?_;refine zL rfl (hdp) ?_;refine zI rfl (rfl) (hz) ?_;refine zL rfl (c4' z hz) ?_
   repeat refine zX rfl ?_
   exact aj ⟨⟨rfl,rfl,rfl,rfl,rfl,rfl,rfl,trivial⟩,rfl⟩
  ·have h0:=of_decide_eq_false hF;exact wp_skip ⟨by rw [dr,if_neg h0]; exact hS.sub ⟨rfl,rfl,rfl,rfl,rfl,rfl,rfl,trivial⟩,rfl⟩
 rintro a w6 ⟨hS,rfl⟩;refine wp_seq (cut (F:=fun a' w'=>St Tryz.f81.ntmps a' [(1,.slice (some ⟨bc,oc,none⟩) cls.length cc),(2,Vi p),(3,Vi q),(4,Vp M),(9,Vi c),(10,Vi (dr cls x)),(11,Vi (dr cls y))] ∧ w' = w6) ?_ ?_)
 ·refine wp_seq (ai [(1,.slice (some ⟨bc,oc,none⟩) cls.length cc),(2,Vi p),(3,Vi q),(4,Vp M),(9,Vi c),(10,Vi (dr cls x)),(11,Vi (-1)),(55,.bool (decide (0 ≤ y)))] (· = w6) af hS ?_ (fun a w7 hS hw=>?_))
  ·repeat refine zX rfl ?_
   refine zL rfl (hx.c2) ?_
   repeat refine zX rfl ?_
   refine zI rfl (rfl) (hq) ?_;refine zL rfl (huq) ?_
   repeat refine zX rfl ?_
   refine zI rfl (rfl) (hcq) ?_;refine zL rfl (hdq) ?_;refine zC rfl (rfl) ?_
   repeat refine zX rfl ?_
   exact aj ⟨⟨rfl,rfl,rfl,rfl,rfl,rfl,rfl,rfl,trivial⟩,rfl⟩
  subst hw;refine cond hS rfl (fun hT=>?_) (fun hF=>?_)
  ·have h0:=of_decide_eq_true hT;obtain ⟨z,rfl⟩:=Int.eq_ofNat_of_zero_le h0;have hz : z < cls.length:=by omega
   refine ai [(1,.slice (some ⟨bc,oc,none⟩) cls.length cc),(2,Vi p),(3,Vi q),(4,Vp M),(9,Vi c),(10,Vi (dr cls x)),(11,Vi (dr cls z))] (· = w7) af hS ?_ (fun a w8 hS hw=>⟨hS,hw⟩);have hcz : dr cls (z : Int) = cls[z]:=by simp [dr,List.getD_eq_getElem?_getD,hz]
   rw [hcz]
   repeat refine zX rfl ?_
   refine zL rfl (hx.c2) ?_
   repeat refine zX rfl ?_
   refine zI rfl (rfl) (hq) ?_;refine zL rfl (huq) ?_
   repeat refine zX rfl ?_
   refine zI rfl (rfl) (hcq) ?_;refine zL rfl (hdq) ?_;refine zI rfl (rfl) (hz) ?_;refine zL rfl (c4' z hz) ?_
   repeat refine zX rfl ?_
   exact aj ⟨⟨rfl,rfl,rfl,rfl,rfl,rfl,rfl,trivial⟩,rfl⟩
  ·have h0:=of_decide_eq_false hF;exact wp_skip ⟨by rw [show dr cls y = -1 by rw [dr,if_neg h0]]; exact hS.sub ⟨rfl,rfl,rfl,rfl,rfl,rfl,rfl,trivial⟩,rfl⟩
 rintro a w7 ⟨hS,rfl⟩;refine wp_seq (ai [(1,.slice (some ⟨bc,oc,none⟩) cls.length cc),(2,Vi p),(3,Vi q),(4,Vp M),(9,Vi c),(69,.bool (decide (dr cls x ≠ dr cls y)))] (· = w7) af hS ?_ (fun a w8 hS hw=>?_))
 ·repeat refine zX rfl ?_
  refine zC rfl (rfl) ?_
  repeat refine zX rfl ?_
  exact aj ⟨⟨rfl,rfl,rfl,rfl,rfl,rfl,trivial⟩,rfl⟩
 subst hw;refine cond hS rfl (fun hT=>?_) (fun hF=>?_)
 ·refine wp_seq (ai [(8,.bool false)] (· = w8) af hS ?_ (fun a w9 hS hw=>?_))
  ·repeat refine zX rfl ?_
   exact aj ⟨⟨rfl,trivial⟩,rfl⟩
  subst hw;refine wp_ret ?_
  repeat first|refine a8 ?_|refine am ?_
  refine ret1 hS rfl rfl ⟨?_,hB⟩;refine congrArg (fun b=>Ending.returned (.bool b)) (Eq.symm ?_);rw [hal];refine Bool.eq_false_iff.2 (fun h=>of_decide_eq_true hT ?_)
  have:=of_decide_eq_true (List.all_eq_true.1 h c (List.mem_range.2 (by omega)))
  rwa [gp,gq] at this
 refine wp_skip ?_;refine ay ?_;refine b4 ?_;refine ai [(1,.slice (some ⟨bc,oc,none⟩) cls.length cc),(2,Vi p),(3,Vi q),(4,Vp M),(9,Vi (c + 1 : Nat))] (· = w8) af hS ?_ (fun a w9 hS hw=>?_)
 ·have hL:=hm.L.2
  repeat refine zX rfl ?_
  refine zN rfl (ck (by omega)) ?_
  repeat refine zX rfl ?_
  exact aj ⟨⟨rfl,rfl,rfl,rfl,rfl,trivial⟩,rfl⟩
 subst hw;refine ⟨L.toNat - (c + 1),_,by omega,⟨c + 1,by omega,rfl,rfl,rfl,fun d hd=>?_⟩,hS⟩
 rcases Nat.lt_or_ge d c with h | h
 ·exact hgo d h
 ·obtain rfl : d = c:=by omega
  rw [gp,gq];exact Decidable.not_not.1 (of_decide_eq_false hF)
end
section
open Go Sym
structure TwoRows (base : Nat) (w : World) (v1 v2 : Value) (l1 l2 : List Int) : Prop where
 a : w.ownsRow base 3 1 v1 l1.length (ints l1)
 b : w.ownsRow base 3 1 v2 l2.length (ints l2)
 ne : v1.ownBlock = none ∨ v1.ownBlock ≠ v2.ownBlock
theorem aiq (w : World) (base n : Nat) (hb : base ≤ w.heap.size) (hn : n ≤ 9223372036854775807) : (w.alloc (.cells (madeCells #[Vi 0] n) 3)).ownsRow base 3 1 (Vs w.heap.size n n) n (ints (List.replicate n 0)):=by
 have h:=World.ownsRow_lit (base:=base) (e:=3) (size:=1) w (madeCells #[Vi 0] n) n hb (by unfold maxLen; exact hn) (by simp [madeCells]);rw [toList_madeCells_one] at h
 simpa [ints] using h
theorem iy {w : World} {base g n c : Nat} {l : List Int} (h : w.ownsRow base 3 1 (Vs g n c) n (ints l)) {j : Nat} (hj : j < l.length) (hn : n = l.length) : w.cell? ⟨g,0 + j,none⟩ = some (Vi l[j]):=by
 subst hn;rw [Nat.zero_add,h.cellAt j (by omega)];simp [ints,hj]
theorem iv {w : World} {base g n c : Nat} {l : List Int} (h : w.ownsRow base 3 1 (Vs g n c) n (ints l)) (j : Nat) : w.frozen? ⟨g,0 + j,none⟩ = false:=by
 rw [Nat.zero_add]; exact h.frozenAt j
theorem iu {w : World} {base g n c : Nat} {l : List Int} (h : w.ownsRow base 3 1 (Vs g n c) n (ints l)) (j : Nat) (x : Int) :
  (w.setCell ⟨g,j,none⟩ (Vi x)).ownsRow base 3 1 (Vs g n c) n (ints (l.set j x)):=by
 have:=(h.stored j (Vi x)).1
 rwa [show (ints l).set j (Vi x) = ints (l.set j x) from (List.map_set ..).symm] at this
theorem aa0 (L s : Int) (vn ve : Value) (next : List (List Int)) (fin : List Bool) (w : World) (hm : Ma w L s next fin vn ve) (hn : next.length ≤ 100000000)
  {Q : Exit → Act → World → Prop} {a : Act} {M : Nat} (hx : Box w M L s vn ve) {base : Nat} (hb : base ≤ w.heap.size) {ops : Array Oper} {id : Nat} (hops : Sym.da Tryz.f53.body 1 = some (id,ops))
  (hS : St Tryz.f53.ntmps a [(1,Vp M)])
  (hq : ∀ a' w',St Tryz.f53.ntmps a' [(1,Vp M),(4,Vs w.heap.size next.length next.length)] → RowKit.Below w.heap.size w w' ∧ w'.ownsRow base 3 1 (Vs w.heap.size next.length next.length) next.length (ints (List.replicate next.length 0)) → Q .normal a' w') :
  (Code.region id ops false).wp Tryz.prog Q a w:=by
 cases hops
 obtain ⟨an,cn,rfl⟩:=hm.n.len;refine ai [(1,Vp M),(4,Vs w.heap.size next.length next.length)] (fun w'=>RowKit.Below w.heap.size w w' ∧ w'.ownsRow base 3 1 (Vs w.heap.size next.length next.length) next.length (ints (List.replicate next.length 0))) af hS ?_ hq
 repeat refine zX rfl ?_
 refine zL rfl (hx.c2) ?_
 repeat refine zX rfl ?_
 refine zM (next.length) rfl rfl rfl rfl rfl ((by show 8 * _ ≤ _; omega)) ((by omega)) ?_
 repeat refine zX rfl ?_
 exact aj ⟨⟨rfl,rfl,trivial⟩,⟨ao _ _,aiq _ _ _ hb (by omega)⟩⟩
theorem acs {base P n : Nat} {w w2 : World} {v v' : Value} {l l2 : List Int} {x : Int} (hown : w2.ownsRow base 3 1 v' (l.length + 1) (ints l ++ [Vi x])) (hgr : w.grownBy w2 v.ownBlock) (hat : v'.ownBlock = v.ownBlock ∨ v'.ownBlock = some w.heap.size)
  (hp : w.ownsRow base 3 1 (Vs P n n) n (ints l2)) (hne : v.ownBlock ≠ some P) :
  w2.ownsRow base 3 1 v' (l ++ [x]).length (ints (l ++ [x])) ∧ w2.ownsRow base 3 1 (Vs P n n) n (ints l2) ∧ v'.ownBlock ≠ some P:=by
 refine ⟨by simpa [ints] using hown,hp.kept hgr (.inr (fun e=>hne e.symm)),?_⟩
 rcases hat with h | h
 ·rw [h]; exact hne
 ·rw [h];intro e
  have:=(hp.lt P rfl).2
  simp only [Option.some.injEq] at e;omega
theorem agq (L s : Int) (vn ve : Value) (next : List (List Int)) (fin : List Bool) (w : World) (hm : Ma w L s next fin vn ve) (hs : Shape L s next fin) (hn : next.length ≤ 100000000) :
  Calls Tryz.prog 53 #[.agg #[Vi L,Vi s,vn,ve]] w fun e w'=>∃ vr vp,e = .returned (.tuple #[vr,vp]) ∧ TwoRows w.heap.size w' vr vp (d7 s next L.toNat).rows (d7 s next L.toNat).place ∧ RowKit.Below w.heap.size w w':=by
 refine Sym.c8 (args:=[.agg #[Vi L,Vi s,vn,ve]]) Tryz.func53 rfl rfl rfl (fun a0 hS0=>?_);obtain ⟨M,hM⟩ : ∃ M,M = w.heap.size:=⟨_,rfl⟩;refine wp_seq (ai [(1,Vp M)] (· = w.alloc (.cells #[Vi L,Vi s,vn,ve] 25)) af hS0 ?_ (fun a wc hS hw=>?_))
 ·subst hM;refine zB rfl ?_
  repeat refine zX rfl ?_
  exact aj ⟨⟨rfl,trivial⟩,rfl⟩
 have hB : RowKit.Below w.heap.size w wc:=by rw [hw]; exact ao _ _
 have hx : Box wc M L s vn ve:=by rw [hw,hM]; exact Box.new _ _ _ _ _ _
 clear hw hM;replace hm:=hm.keep hB;refine wp_seq (aa0 L s vn ve next fin wc hm hn hx (base:=wc.heap.size) (Nat.le_refl _) (by rfl) hS (fun a w1 hS h1=>?_));obtain ⟨P,hP⟩ : ∃ P,P = wc.heap.size:=⟨_,rfl⟩;rw [← hP] at hS;obtain ⟨hK1,hp1⟩:=h1;rw [← hP] at hp1 hK1;refine wp_seq (wp_seq (ai [(1,Vp M),(4,Vs P next.length next.length),(5,Vi 0)] (· = w1) af hS ?_ (fun a w2 hS hw=>?_)))
 ·repeat refine zX rfl ?_
  exact aj ⟨⟨rfl,rfl,rfl,trivial⟩,rfl⟩
 subst hw
 refine wp_block (cz hS (fun g E wr=>∃ k : Nat,k ≤ next.length ∧ g = next.length - k ∧ E = [(1,Vp M),(4,Vs P next.length next.length),(5,Vi k)] ∧ RowKit.Below P wc wr ∧
   wr.ownsRow P 3 1 (Vs P next.length next.length) next.length (ints (List.replicate k (-1) ++ List.replicate (next.length - k) 0)))
  next.length ⟨0,Nat.zero_le _,rfl,rfl,hK1,hp1⟩ ?_)
 clear hK1 hp1;rintro g E wr a1 ⟨k,hk,rfl,rfl,hK,hp⟩ hS;refine wp_seq (wp_seq (ai [(1,Vp M),(4,Vs P next.length next.length),(5,Vi k),(17,.bool (decide ((k : Int) < next.length)))] (· = wr) af hS ?_ (fun a w3 hS hw=>?_)))
 ·repeat refine zX rfl ?_
  refine zC rfl (rfl) ?_
  repeat refine zX rfl ?_
  exact aj ⟨⟨rfl,rfl,rfl,rfl,trivial⟩,rfl⟩
 subst hw;refine cond hS rfl (fun hT=>?_) (fun hF=>?_)
 case refine_2=>
  refine wp_exit ?_
  repeat first|refine bf ?_|refine ba ?_|refine az rfl ?_
  obtain rfl : k = next.length:=by have:=of_decide_eq_false hF; omega
  rw [Nat.sub_self,List.replicate_zero,List.append_nil] at hp;refine wp_seq (ai [(1,Vp M),(4,Vs P next.length next.length),(6,Vs w3.heap.size 0 0)] (· = w3.alloc (.cells #[] 3)) af hS ?_ (fun a w4 hS hw=>?_))
  ·repeat refine zX rfl ?_
   refine b8 rfl rfl rfl ?_;refine exI [] (exI #[] (anI (anI rfl rfl) (anI (by decide) (anI (by simp [Instr.fill,madeCells]) ?_))))
   repeat refine zX rfl ?_
   exact aj ⟨⟨rfl,rfl,rfl,trivial⟩,rfl⟩
  have hPlt:=(hp.lt P rfl).2;have hr:=jq w3 P 3 (by omega);have hp4:=hp.alloc (.cells #[] 3);have hne : (Vs w3.heap.size 0 0).ownBlock ≠ some P:=by simp only [Value.ownBlock,ne_eq,Option.some.injEq]; omega
  have hK4:=ak (hP ▸ hK : RowKit.Below wc.heap.size wc w3) (ao w3 (.cells #[] 3));rw [← hw] at hr hp4 hK4;obtain ⟨vr,hvr⟩ : ∃ vr,(Vs w3.heap.size 0 0) = vr:=⟨_,rfl⟩;rw [hvr] at hr hne hS;have hvr' : ∃ g c,vr = .slice g 0 c:=⟨_,_,hvr.symm⟩;clear hw hK hp hvr;have hPw : w.heap.size ≤ P:=by rw [hP]; exact hB.size
  have hPb : P ≤ w4.heap.size:=by have:=hK4.size; omega
  refine wp_seq (wp_seq (ai [(1,Vp M),(4,Vs P next.length next.length),(6,vr),(26,.bool (decide (s < 0)))] (· = w4) af hS ?_ (fun a w5 hS hw=>?_)))
  ·repeat refine zX rfl ?_
   refine zL rfl ((hx.keep hK4).c1) ?_;refine zC rfl (rfl) ?_
   repeat refine zX rfl ?_
   exact aj ⟨⟨rfl,rfl,rfl,rfl,trivial⟩,rfl⟩
  subst hw;refine cond hS rfl (fun hT=>?_) (fun hF=>?_)
  ·refine wp_seq (ai [(2,vr),(3,Vs P next.length next.length)] (· = w5) af hS ?_ (fun a w6 hS hw=>?_))
   ·repeat refine zX rfl ?_
    exact aj ⟨⟨rfl,rfl,trivial⟩,rfl⟩
   subst hw;have hfm : d7 s next L.toNat = ⟨[],List.replicate next.length (-1)⟩:=by rw [d7,if_pos (of_decide_eq_true hT)]
   refine wp_ret ?_
   repeat first|refine a8 ?_|refine am ?_
   refine ret2 hS rfl rfl rfl ⟨vr,_,rfl,?_,ak hB hK4⟩;rw [hfm];exact ⟨ez hr hPw,by simpa using ez hp4 hPw,.inr hne⟩
  have hs0 : 0 ≤ s:=by have:=of_decide_eq_false hF; omega
  obtain ⟨z,rfl⟩:=Int.eq_ofNat_of_zero_le hs0;have hz : z < next.length:=by have:=hs.s2; omega
  have hfm : d7 (z : Int) next L.toNat = dg next L.toNat next.length 0 ⟨[(z : Int)],(List.replicate next.length (-1)).set z 0⟩:=by rw [d7,if_neg (by omega)]; rfl
  refine wp_skip ?_;refine wp_seq (bg (α:=Value) (fun v=>[(1,Vp M),(4,Vs P next.length next.length),(6,v)]) (fun v w'=>RowKit.Below wc.heap.size wc w' ∧ P ≤ w'.heap.size ∧ w'.ownsRow P 3 1 v [(z : Int)].length (ints [(z : Int)]) ∧ w'.ownsRow P 3 1 (Vs P next.length next.length) next.length (ints (List.replicate next.length (-1))) ∧ v.ownBlock ≠ some P) af hS ?_ (fun v a w6 hS h6=>?_))
  ·obtain ⟨g,c,rfl⟩:=hvr'
   repeat refine zX rfl ?_
   refine zL rfl ((hx.keep hK4).c1) ?_
   repeat refine zX rfl ?_
   refine b8 rfl rfl rfl ?_;refine exI [(0,Vi ((z : Int)))] (exI #[Vi ((z : Int))] (anI (anI rfl rfl) (anI (by decide) (anI (jv _ _ _) ?_))));have hy1:=ao w5 (.cells #[Vi z] 3)
   have ask : AppAsk (w5.alloc (.cells #[Vi z] 3)) ⟨3,.int .i64,1,8,Vi 0⟩ (.slice g 0 c) 0 [] (Vs w5.heap.size 1 1) 1 [Vi z] P:=
    ⟨hr.alloc _,.inr ⟨_,0,_,rfl,ax rfl,trivial⟩,rfl,(by simp [Value.oneCell']),(by omega),(by decide),Nat.le_trans hPb hy1.size⟩
   refine b8 rfl rfl rfl ?_;refine exI _ (exI _ (exI _ (exI _ (exI _ (anI (ask) (anI (fun _ h=>h.symm) (anI (by decide) ?_)))))));rintro v' w2 hown hgr - hat;obtain ⟨e1,e2,e3⟩:=acs (l:=[]) hown hgr hat (hp4.alloc _) hne;have e4:=a6 (ak hK4 hy1) hgr (fun q hq=>by have:=(hr.lt q hq).1; omega)
   repeat refine zX rfl ?_
   exact aj ⟨v',⟨rfl,rfl,rfl,trivial⟩,e4,Nat.le_trans (Nat.le_trans hPb hy1.size) hgr.size,e1,e2,e3⟩
  clear hr hp4 hne hvr' hK4 hPb;obtain ⟨hK6,hPb,hr6,hp6,hne6⟩:=h6;refine wp_seq (ai [(1,Vp M),(4,Vs P next.length next.length),(6,v)] (· = w6.setCell ⟨P,0 + z,none⟩ (Vi 0)) af hS ?_ (fun a w7 hS hw=>?_))
  ·repeat refine zX rfl ?_
   refine zL rfl ((hx.keep hK6).c1) ?_;refine zI rfl (rfl) (hz) ?_;refine zS rfl rfl (iy hp6 (j:=z) (by simp; omega) (by simp)) (iv hp6 z) ?_;exact aj ⟨⟨rfl,rfl,rfl,trivial⟩,rfl⟩
  rw [Nat.zero_add] at hw;have hp7:=iu hp6 z 0;have hg7:=(hp6.stored z (Vi 0)).2;have hr7:=hr6.kept hg7 (.inr hne6);have hK7:=a6 hK6 hg7 (fun q hq=>by cases hq; omega);have hPb7:=Nat.le_trans hPb hg7.size;rw [← hw] at hp7 hr7 hK7 hPb7;clear hw hp6 hr6 hK6 hg7 hPb
  have hok : FOk next.length ⟨[(z : Int)],(List.replicate next.length (-1)).set z 0⟩:=⟨by simp,fun x hx=>by
   rw [List.mem_singleton.1 hx];refine ⟨by omega,by omega,?_⟩;simp [List.getD_eq_getElem?_getD,hz],by simp⟩
  refine wp_seq (wp_seq (ai [(1,Vp M),(4,Vs P next.length next.length),(6,v),(7,Vi 0)] (· = w7) af hS ?_ (fun a w8 hS hw=>?_)))
  ·repeat refine zX rfl ?_
   exact aj ⟨⟨rfl,rfl,rfl,rfl,trivial⟩,rfl⟩
  subst hw
  refine wp_block (cz hS (fun g E wr=>∃ (k : Nat) (v : Value) (f : FS),k ≤ next.length ∧ g = next.length - k ∧ E = [(1,Vp M),(4,Vs P next.length next.length),(6,v),(7,Vi k)] ∧ RowKit.Below wc.heap.size wc wr ∧ P ≤ wr.heap.size ∧ wr.ownsRow P 3 1 v f.rows.length (ints f.rows) ∧ wr.ownsRow P 3 1 (Vs P next.length next.length) next.length (ints f.place) ∧ v.ownBlock ≠ some P ∧ FOk next.length f ∧
    d7 (z : Int) next L.toNat = dg next L.toNat (next.length - k) k f)
   next.length ⟨0,v,_,Nat.zero_le _,rfl,rfl,hK7,hPb7,hr7,hp7,hne6,hok,hfm⟩ ?_)
  clear hK7 hPb7 hr7 hp7 hne6 hok hfm hS;rintro g E wr a1 ⟨k,v,f,hk,rfl,rfl,hK,hPb,hr,hp,hne,hok,hgo⟩ hS;have hcap:=hok.cap;have hII : ∀ x ∈ f.rows,I64 x:=fun x hx=>by obtain ⟨a,b,_⟩:=hok.r x hx; exact ⟨by omega,by omega⟩
  obtain ⟨⟨av,bv,ov,cv,rfl,v1,v2,v3,v4⟩,-⟩:=jn (P:=PInt) (l:=f.rows) hr rfl (fun i hi=>⟨_,by simp [ints,hi],rfl,hII _ (List.getElem_mem hi)⟩);refine wp_seq (wp_seq (ai [(1,Vp M),(4,Vs P next.length next.length),(6,.slice av f.rows.length cv),(7,Vi k),(41,.bool (decide ((k : Int) < f.rows.length)))] (· = wr) af hS ?_ (fun a w8 hS hw=>?_)))
  ·repeat refine zX rfl ?_
   refine zC rfl (rfl) ?_
   repeat refine zX rfl ?_
   exact aj ⟨⟨rfl,rfl,rfl,rfl,rfl,trivial⟩,rfl⟩
  subst hw;refine cond hS rfl (fun hT=>?_) (fun hF=>?_)
  case refine_2=>
   refine wp_exit ?_
   repeat first|refine bf ?_|refine ba ?_|refine az rfl ?_
   have hge : ¬ k < f.rows.length:=by have:=of_decide_eq_false hF; omega
   refine wp_seq (ai [(2,.slice av f.rows.length cv),(3,Vs P next.length next.length)] (· = w8) af hS ?_ (fun a w9 hS hw=>?_))
   ·repeat refine zX rfl ?_
    exact aj ⟨⟨rfl,rfl,trivial⟩,rfl⟩
   subst hw
   have hend : d7 (z : Int) next L.toNat = f:=by
    rw [hgo]
    cases next.length - k with
    | zero=>rfl
    | succ g=>rw [dg,if_neg hge]
   refine wp_ret ?_
   repeat first|refine a8 ?_|refine am ?_
   refine ret2 hS rfl rfl rfl ⟨_,_,rfl,?_,ak hB hK⟩;rw [hend];exact ⟨ez hr hPw,by rw [hok.p]; exact ez hp hPw,.inr hne⟩
  have hlt : k < f.rows.length:=by have:=of_decide_eq_true hT; omega
  obtain ⟨r,hrk⟩ : ∃ r,f.rows[k] = r:=⟨_,rfl⟩;have hget : f.rows.getD k 0 = r:=by simp [List.getD_eq_getElem?_getD,hlt,hrk]
  have hrq : f.rows[k]? = some r:=by simp [hlt,hrk]
  have hrr:=hok.r r (hrk ▸ List.getElem_mem hlt);obtain ⟨rn,rfl⟩:=Int.eq_ofNat_of_zero_le hrr.1;have hrn : rn < next.length:=by omega
  clear v1 v2 v3 v4;refine wp_skip ?_;refine wp_seq (wp_block ?_);refine wp_seq (ai [(1,Vp M),(4,Vs P next.length next.length),(6,.slice av f.rows.length cv),(7,Vi k),(8,Vi 0)] (· = w8) af hS ?_ (fun a w9 hS hw=>?_))
  ·repeat refine zX rfl ?_
   exact aj ⟨⟨rfl,rfl,rfl,rfl,rfl,trivial⟩,rfl⟩
  subst hw
  refine wp_block (cz hS (fun g E wr=>∃ (c : Nat) (v : Value) (f' : FS),(c : Int) ≤ L ∧ g = L.toNat - c ∧ E = [(1,Vp M),(4,Vs P next.length next.length),(6,v),(7,Vi k),(8,Vi c)] ∧ RowKit.Below wc.heap.size wc wr ∧ P ≤ wr.heap.size ∧ wr.ownsRow P 3 1 v f'.rows.length (ints f'.rows) ∧ wr.ownsRow P 3 1 (Vs P next.length next.length) next.length (ints f'.place) ∧ v.ownBlock ≠ some P ∧ FOk next.length f' ∧
    f'.rows[k]? = some (rn : Int) ∧ f' = FS.row next rn c f)
   L.toNat ⟨0,_,f,hs.L0,rfl,rfl,hK,hPb,hr,hp,hne,hok,hrq,rfl⟩ ?_)
  clear hK hPb hr hp hne hS;rintro g E wr a1' ⟨c,v,f',hcL,rfl,rfl,hK,hPb,hr,hp,hne,hok',hrk',hf'⟩ hS;refine wp_seq (wp_seq (ai [(1,Vp M),(4,Vs P next.length next.length),(6,v),(7,Vi k),(8,Vi c),(47,.bool (decide ((c : Int) < L)))] (· = wr) af hS ?_ (fun a w9 hS hw=>?_)))
  ·repeat refine zX rfl ?_
   refine zL rfl ((hx.keep hK).c0) ?_;refine zC rfl (rfl) ?_
   repeat refine zX rfl ?_
   exact aj ⟨⟨rfl,rfl,rfl,rfl,rfl,rfl,trivial⟩,rfl⟩
  subst hw;refine cond hS rfl (fun hT=>?_) (fun hF=>?_)
  case refine_2=>
   refine wp_exit ?_
   repeat first|refine bf ?_|refine ba ?_|refine az rfl ?_
   obtain rfl : c = L.toNat:=by have:=of_decide_eq_false hF; omega
   refine ay ?_;refine b4 ?_;refine ai [(1,Vp M),(4,Vs P next.length next.length),(6,v),(7,Vi (k + 1 : Nat))] (· = w9) af hS ?_ (fun a w10 hS hw=>?_)
   ·repeat refine zX rfl ?_
    refine zN rfl (ck (by omega)) ?_
    repeat refine zX rfl ?_
    exact aj ⟨⟨rfl,rfl,rfl,rfl,trivial⟩,rfl⟩
   subst hw;refine ⟨next.length - (k + 1),_,by omega,⟨k + 1,v,f',by omega,rfl,rfl,hK,hPb,hr,hp,hne,hok',?_⟩,hS⟩;rw [hgo,show next.length - k = (next.length - (k + 1)) + 1 by omega,dg,if_pos hlt,hget,hf']
  have hcL1 : (c : Int) < L:=of_decide_eq_true hT;have hII : ∀ x ∈ f'.rows,I64 x:=fun x hx=>by obtain ⟨a,b,_⟩:=hok'.r x hx; exact ⟨by omega,by omega⟩
  obtain ⟨⟨av,bv,ov,cv,rfl,v1,v2,v3,v4⟩,-⟩:=jn (P:=PInt) (l:=f'.rows) hr rfl (fun i hi=>⟨_,by simp [ints,hi],rfl,hII _ (List.getElem_mem hi)⟩);have hlt' : k < f'.rows.length:=(List.getElem?_eq_some_iff.1 hrk').1;obtain rfl:=v1 (by omega);obtain ⟨_,hcr,rfl,-⟩:=v4 k hlt';rw [(List.getElem?_eq_some_iff.1 hrk').2] at hcr;obtain ⟨an,bn,on,cn,hvn,m1,m2,m3,m4⟩:=id (hm.keep hK).n;subst hvn;obtain rfl:=m1 (by omega);obtain ⟨u,hu,hpu,-⟩:=m4 rn hrn;obtain ⟨au,bu,ou,cu,rfl,u1,u2,u3,u4⟩:=hpu;obtain ⟨hlu,hvu⟩:=hs.rows rn hrn;have hcu : c < next[rn].length:=by omega
  obtain rfl:=u1 (by omega);obtain ⟨_,hdu,rfl,-⟩:=u4 c hcu;have gt : (next.getD (rn : Int).toNat []).getD c (-1) = next[rn][c]:=by simp [List.getD_eq_getElem?_getD,hrn,hcu]
  obtain ⟨t,htv⟩ : ∃ t,next[rn][c] = t:=⟨_,rfl⟩;have htr:=hvu c hcu;rw [htv] at hdu gt htr;have hrow : FS.row next rn (c + 1) f = FS.step next rn f' c:=by rw [FS.row_succ,← hf']
  have hok2 : FOk next.length (FS.step next rn f' c):=hok'.step (by rw [gt]; exact htr.2);have hrk2:=FS.step_rows (next:=next) (r:=rn) (c:=c) hrk';have hstep : FS.step next rn f' c = if 0 ≤ t ∧ f'.place.getD t.toNat 0 < 0 then ⟨f'.rows ++ [t],f'.place.set t.toNat f'.rows.length⟩ else f':=by rw [FS.step,gt]
  clear v4 m4 u4 hvu;refine wp_skip ?_;refine wp_seq (wp_block ?_);refine wp_seq (b6 [(1,Vp M),(4,Vs P next.length next.length),(6,.slice (some ⟨bv,ov,none⟩) f'.rows.length cv),(7,Vi k),(8,Vi c),(9,Vi t)] af dc (by kernel_rfl) hS ?_ (fun a w10 hS hw=>?_))
  ·repeat refine qX rfl ?_
   refine qL rfl ((hx.keep hK).c2) ?_
   repeat refine qX rfl ?_
   refine qI rfl (rfl) (hlt') ?_;refine qL rfl (hcr) ?_;refine qI rfl (rfl) (hrn) ?_;refine qL rfl (hu) ?_
   repeat refine qX rfl ?_
   refine qI rfl (rfl) (hcu) ?_;refine qL rfl (hdu) ?_
   repeat refine qX rfl ?_
   exact fa ⟨rfl,rfl,rfl,rfl,rfl,rfl,trivial⟩
  have hg10 : w9.grownBy w10 none:=⟨hw.os,hw.tape,hw.output,hw.size,fun q hq _=>hw.block q hq⟩;replace hr:=hr.kept hg10 (fw _);replace hp:=hp.kept hg10 (fw _);replace hK:=ak hK hw;replace hPb:=Nat.le_trans hPb hw.size;clear hw hg10 hu hdu hcr;obtain ⟨hb9,hhb9⟩ : ∃ b,(decide (0 ≤ t) && decide (f'.place.getD t.toNat 0 < 0)) = b:=⟨_,rfl⟩;refine cut (F:=fun a' w'=>∃ v,St Tryz.f53.ntmps a' [(1,Vp M),(4,Vs P next.length next.length),(6,v),(7,Vi k),(8,Vi c)] ∧ RowKit.Below wc.heap.size wc w' ∧ P ≤ w'.heap.size ∧ w'.ownsRow P 3 1 v (FS.step next rn f' c).rows.length (ints (FS.step next rn f' c).rows) ∧ w'.ownsRow P 3 1 (Vs P next.length next.length) next.length (ints (FS.step next rn f' c).place) ∧ v.ownBlock ≠ some P) ?_ ?_
  ·refine wp_seq (ai [(1,Vp M),(4,Vs P next.length next.length),(6,.slice (some ⟨bv,ov,none⟩) f'.rows.length cv),(7,Vi k),(8,Vi c),(9,Vi t),(69,.bool hb9)] (· = w10) af hS ?_ (fun a w11 hS hw=>?_))
   ·repeat refine zX rfl ?_
    cases e1 : decide (0 ≤ t)
    case false=>
     rw [e1,Bool.false_and] at hhb9; subst hhb9;refine zC rfl (e1) ?_
     repeat refine zX rfl ?_
     exact aj ⟨⟨rfl,rfl,rfl,rfl,rfl,rfl,rfl,trivial⟩,rfl⟩
    case true=>
     rw [e1,Bool.true_and] at hhb9;have h0:=of_decide_eq_true e1;obtain ⟨tn,rfl⟩:=Int.eq_ofNat_of_zero_le h0;have htn : tn < f'.place.length:=by rw [hok'.p]; omega
     have hgd : f'.place.getD (tn : Int).toNat 0 = f'.place[tn]:=by simp [List.getD_eq_getElem?_getD,htn]
     rw [hgd] at hhb9;refine zC rfl (e1) ?_
     repeat refine zX rfl ?_
     refine zI rfl (rfl) ((by omega : tn < next.length)) ?_;refine zL rfl (iy hp htn hok'.p.symm) ?_;refine zC rfl (hhb9) ?_
     repeat refine zX rfl ?_
     exact aj ⟨⟨rfl,rfl,rfl,rfl,rfl,rfl,rfl,trivial⟩,rfl⟩
   subst hw;refine cond hS rfl (fun hT=>?_) (fun hF=>?_)
   ·have hcnd : 0 ≤ t ∧ f'.place.getD t.toNat 0 < 0:=by
     have:=hhb9.trans hT
     rw [Bool.and_eq_true,decide_eq_true_eq,decide_eq_true_eq] at this;exact this
    rw [hstep,if_pos hcnd];obtain ⟨tn,rfl⟩:=Int.eq_ofNat_of_zero_le hcnd.1;have htn : tn < f'.place.length:=by rw [hok'.p]; omega
    refine wp_seq (ai [(1,Vp M),(4,Vs P next.length next.length),(6,.slice (some ⟨bv,ov,none⟩) f'.rows.length cv),(7,Vi k),(8,Vi c),(9,Vi tn)] (· = w11.setCell ⟨P,0 + tn,none⟩ (Vi (f'.rows.length : Nat))) af hS ?_ (fun a w12 hS hw=>?_))
    ·repeat refine zX rfl ?_
     refine zI rfl (rfl) ((by omega : tn < next.length)) ?_;refine zS rfl rfl (iy hp htn hok'.p.symm) (iv hp tn) ?_;exact aj ⟨⟨rfl,rfl,rfl,rfl,rfl,rfl,trivial⟩,rfl⟩
    rw [Nat.zero_add] at hw;have hp12:=iu hp tn (f'.rows.length : Nat);have hg12:=(hp.stored tn (Vi (f'.rows.length : Nat))).2;have hr12:=hr.kept hg12 (.inr hne);have hK12:=a6 hK hg12 (fun q hq=>by cases hq; omega);have hPb12:=Nat.le_trans hPb hg12.size;rw [← hw] at hp12 hr12 hK12 hPb12;clear hw hp hr hK hg12 hPb;have hcap2:=hok'.cap;refine bg (α:=Value) (fun v=>[(1,Vp M),(4,Vs P next.length next.length),(6,v),(7,Vi k),(8,Vi c)]) (fun v w'=>RowKit.Below wc.heap.size wc w' ∧ P ≤ w'.heap.size ∧ w'.ownsRow P 3 1 v (f'.rows ++ [(tn : Int)]).length (ints (f'.rows ++ [(tn : Int)])) ∧ w'.ownsRow P 3 1 (Vs P next.length next.length) next.length (ints (f'.place.set tn (f'.rows.length : Nat))) ∧ v.ownBlock ≠ some P) af hS ?_ (fun v a w13 hS h13=>⟨v,hS,h13⟩)
    repeat refine zX rfl ?_
    refine b8 rfl rfl rfl ?_;refine exI [(0,Vi ((tn : Int)))] (exI #[Vi ((tn : Int))] (anI (anI rfl rfl) (anI (by decide) (anI (jv _ _ _) ?_))));have hy1:=ao w12 (.cells #[Vi tn] 3)
    have ask : AppAsk (w12.alloc (.cells #[Vi tn] 3)) ⟨3,.int .i64,1,8,Vi 0⟩ (.slice (some ⟨bv,ov,none⟩) f'.rows.length cv) f'.rows.length (ints f'.rows) (Vs w12.heap.size 1 1) 1 [Vi tn] P:=
     ⟨hr12.alloc _,.inr ⟨_,0,_,rfl,ax rfl,trivial⟩,rfl,(by simp [Value.oneCell']),(by omega),(by show (f'.rows.length + 1) * 8 ≤ _; omega),Nat.le_trans hPb12 hy1.size⟩
    refine b8 rfl rfl rfl ?_;refine exI _ (exI _ (exI _ (exI _ (exI _ (anI (ask) (anI (fun _ h=>h.symm) (anI (by decide) ?_)))))));rintro v' w13 hown hgr - hat;obtain ⟨e1,e2,e3⟩:=acs hown hgr hat (hp12.alloc _) hne;have e4:=a6 (ak hK12 hy1) hgr (fun q hq=>by have:=(hr12.lt q hq).1; omega)
    repeat refine zX rfl ?_
    exact aj ⟨v',⟨rfl,rfl,rfl,rfl,rfl,trivial⟩,e4,Nat.le_trans (Nat.le_trans hPb12 hy1.size) hgr.size,e1,e2,e3⟩
   ·have hcnd : ¬ (0 ≤ t ∧ f'.place.getD t.toNat 0 < 0):=by
     rintro ⟨h0,h1⟩;rw [decide_eq_true h0,decide_eq_true h1,hF] at hhb9
     cases hhb9
    rw [hstep,if_neg hcnd];exact wp_skip ⟨_,hS.sub ⟨rfl,rfl,rfl,rfl,rfl,trivial⟩,hK,hPb,hr,hp,hne⟩
  rintro a w11 ⟨v,hS,hK11,hPb11,hr11,hp11,hne11⟩;refine ay ?_;refine b4 ?_;refine ai [(1,Vp M),(4,Vs P next.length next.length),(6,v),(7,Vi k),(8,Vi (c + 1 : Nat))] (· = w11) af hS ?_ (fun a w12 hS hw=>?_)
  ·have hL:=hm.L.2
   repeat refine zX rfl ?_
   refine zN rfl (ck (by omega)) ?_
   repeat refine zX rfl ?_
   exact aj ⟨⟨rfl,rfl,rfl,rfl,rfl,trivial⟩,rfl⟩
  subst hw;exact ⟨L.toNat - (c + 1),_,by omega,⟨c + 1,v,_,by omega,rfl,rfl,hK11,hPb11,hr11,hp11,hne11,hok2,hrk2,hrow.symm⟩,hS⟩
 have hlt : k < next.length:=by have:=of_decide_eq_true hT; omega
 refine wp_skip ?_;refine wp_seq (wp_block ?_);refine ai [(1,Vp M),(4,Vs P next.length next.length),(5,Vi k)] (· = w3.setCell ⟨P,0 + k,none⟩ (Vi (-1))) af hS ?_ (fun a w4 hS hw=>?_)
 ·repeat refine zX rfl ?_
  refine zI rfl (rfl) (hlt) ?_;refine zS rfl rfl (iy hp (j:=k) (by simp; omega) (by simp; omega)) (iv hp k) ?_;exact aj ⟨⟨rfl,rfl,rfl,trivial⟩,rfl⟩
 have hp4:=iu hp k (-1);have hK4:=a6 (w0:=wc) (hP ▸ hK) (hp.stored k (Vi (-1))).2 (fun q hq=>by cases hq; omega);rw [← hP] at hK4;rw [Nat.zero_add] at hw;rw [← hw] at hp4 hK4;refine ay ?_;refine b4 ?_;refine ai [(1,Vp M),(4,Vs P next.length next.length),(5,Vi (k + 1 : Nat))] (· = w4) af hS ?_ (fun a w5 hS hw5=>?_)
 ·repeat refine zX rfl ?_
  refine zN rfl (ck (by omega)) ?_
  repeat refine zX rfl ?_
  exact aj ⟨⟨rfl,rfl,rfl,trivial⟩,rfl⟩
 subst hw5;refine ⟨next.length - (k + 1),_,by omega,⟨k + 1,by omega,rfl,rfl,hK4,?_⟩,hS⟩
 have he : (List.replicate k (-1 : Int) ++ List.replicate (next.length - k) 0).set k (-1) = List.replicate (k + 1) (-1) ++ List.replicate (next.length - (k + 1)) 0:=by
  rw [List.set_append_right _ _ (by simp),List.length_replicate,Nat.sub_self,show next.length - k = (next.length - (k + 1)) + 1 by omega,List.replicate_succ,List.set_cons_zero,List.replicate_succ',List.append_assoc];rfl
 rw [he] at hp4;exact hp4
end
section
open Go Sym
theorem ai1 (L s : Int) (vn ve : Value) (next : List (List Int)) (fin : List Bool) (w : World) (hm : Ma w L s next fin vn ve) (hs : Shape L s next fin) (hn : next.length ≤ 100000000) :
  Calls Tryz.prog 80 #[.agg #[Vi L,Vi s,vn,ve]] w fun e w'=>∃ (g c : Nat) (lv : List Bool),e = .returned (Vs g next.length c) ∧ Rows w.heap.size w' [oB (Vs g next.length c) lv] ∧ RowKit.Below w.heap.size w w' ∧
   lv.length = next.length ∧ ∀ i : Nat,i < next.length → (lv.getD i false = true ↔ Live L.toNat next fin i):=by
 refine Sym.c8 (args:=[.agg #[Vi L,Vi s,vn,ve]]) Tryz.func80 rfl rfl rfl (fun a0 hS0=>?_);obtain ⟨M,hM⟩ : ∃ M,M = w.heap.size:=⟨_,rfl⟩;refine wp_seq (ai [(1,Vp M)] (· = w.alloc (.cells #[Vi L,Vi s,vn,ve] 25)) af hS0 ?_ (fun a wc hS hw=>?_))
 ·subst hM;refine zB rfl ?_
  repeat refine zX rfl ?_
  exact aj ⟨⟨rfl,trivial⟩,rfl⟩
 have hB : RowKit.Below w.heap.size w wc:=by rw [hw]; exact ao _ _
 have hx : Box wc M L s vn ve:=by rw [hw,hM]; exact Box.new _ _ _ _ _ _
 clear hw;replace hm:=hm.keep hB;have hfn:=hs.fin;refine wp_seq (bg (α:=Nat × Nat) (fun x=>[(1,Vp M),(3,Vs x.1 next.length x.2)]) (fun x w'=>RowKit.Below wc.heap.size wc w' ∧ Rows wc.heap.size w' [oB (Vs x.1 next.length x.2) fin]) af hS ?_ (fun x a w1 hS h1=>?_))
 ·have hy:=ao wc (.cells #[] 4);have hl:=jq wc wc.heap.size 4 (Nat.le_refl _);obtain ⟨ae,ce,rfl⟩:=hm.e.len
  repeat refine zX rfl ?_
  refine b8 rfl rfl rfl ?_;refine exI [] (exI #[] (anI (anI rfl rfl) (anI (by decide) (anI (by simp [Instr.fill,madeCells]) ?_))));have ask:=tq (e:=⟨4,.bool,1,1,.bool false⟩) hl (uo (f:=Value.bool) ((hm.keep hy).e) hm.oke (fun _ _ h=>h)) rfl (fun _=>rfl) (by omega) (by simp only [Nat.mul_one]; omega) hy.size
  repeat refine zX rfl ?_
  refine zL rfl ((hx.keep hy).c3) ?_;refine b8 rfl rfl rfl ?_;refine exI _ (exI _ (exI _ (exI _ (exI _ (anI (ask) (anI (fun _ h=>h.symm) (anI (by decide) ?_)))))));rintro v' w2 hown hgr hnil hat;rw [Nat.zero_add,List.nil_append] at hown
  have hR : Rows wc.heap.size w2 [oB v' fin]:=(Rows.nil _ wc).new (o:=oB v' fin) (w':=w2) ⟨hgr.os,hgr.tape,hgr.output,Nat.le_trans hy.size hgr.size,fun q hq _=>(hgr.block q (Nat.lt_of_lt_of_le hq hy.size) (by simp only [Value.ownBlock,ne_eq,Option.some.injEq]; omega)).trans (hy.block q hq)⟩ hown (by
   rcases hat with h | h
   ·exact .inr ⟨_,h,Nat.le_refl _⟩
   ·exact .inr ⟨_,h,hy.size⟩)
  have hK:=a6 hy hgr (fun q hq=>by simp only [Value.ownBlock,Option.some.injEq] at hq; omega)
  rcases hR.form (i:=0) rfl with ⟨e,_⟩ | ⟨g,c,e,_⟩
  ·have:=(hnil.1 e).1; cases this
  subst e;rw [hfn] at hR ⊢
  repeat refine zX rfl ?_
  exact aj ⟨(g,c),⟨rfl,rfl,trivial⟩,hK,hR⟩
 obtain ⟨O,cO⟩:=x;obtain ⟨hK,hR⟩:=h1;dsimp only at hS hR;refine wp_seq (wp_seq (ai [(1,Vp M),(3,Vs O next.length cO),(4,.bool true)] (· = w1) af hS ?_ (fun a w2 hS hw=>?_)))
 ·repeat refine zX rfl ?_
  exact aj ⟨⟨rfl,rfl,rfl,trivial⟩,rfl⟩
 subst hw
 refine wp_block (cz hS (fun g E wr=>∃ (ag : Bool) (out : List Bool),g = 2 * ga out + (if ag = true then 1 else 0) ∧ E = [(1,Vp M),(3,Vs O next.length cO),(4,.bool ag)] ∧ RowKit.Below wc.heap.size wc wr ∧ Rows wc.heap.size wr [oB (Vs O next.length cO) out] ∧ LiveI L.toNat next fin out ∧ (ag = false → ∀ i,i < next.length → oy L.toNat next out i))
  (2 * ga fin + 1) ⟨true,fin,rfl,rfl,hK,hR,adl (s:=s) (by rw [Int.toNat_of_nonneg hs.L0]; exact hs),fun h=>by cases h⟩ ?_)
 clear hK hR hS;rintro g0 E wr a1 ⟨ag,out0,rfl,rfl,hK,hR,hI,hdone⟩ hS;refine wp_seq (wp_seq (ai [(1,Vp M),(3,Vs O next.length cO),(4,.bool ag),(11,.bool ag)] (· = wr) af hS ?_ (fun a w3 hS hw=>?_)))
 ·repeat refine zX rfl ?_
  exact aj ⟨⟨rfl,rfl,rfl,rfl,trivial⟩,rfl⟩
 subst hw;refine cond hS rfl (fun hT=>?_) (fun hF=>?_)
 case refine_2=>
  refine wp_exit ?_
  repeat first|refine bf ?_|refine ba ?_|refine az rfl ?_
  refine wp_seq (ai [(2,Vs O next.length cO)] (· = w3) af hS ?_ (fun a w4 hS hw=>?_))
  ·repeat refine zX rfl ?_
   exact aj ⟨⟨rfl,trivial⟩,rfl⟩
  subst hw;refine wp_ret ?_
  repeat first|refine a8 ?_|refine am ?_
  exact ret1 hS rfl rfl ⟨O,cO,out0,rfl,hR.mono hB.size,ak hB hK,hI.len,ai0 (s:=s) (by rw [Int.toNat_of_nonneg hs.L0]; exact hs) hI (hdone hF)⟩
 subst hT;clear hdone;refine wp_skip ?_;refine wp_block ?_;refine wp_seq (ai [(1,Vp M),(3,Vs O next.length cO),(4,.bool false)] (· = w3) af hS ?_ (fun a w4 hS hw=>?_))
 ·repeat refine zX rfl ?_
  exact aj ⟨⟨rfl,rfl,rfl,trivial⟩,rfl⟩
 subst hw;refine wp_seq (ai [(1,Vp M),(3,Vs O next.length cO),(4,.bool false),(5,Vi 0)] (· = w4) af hS ?_ (fun a w5 hS hw=>?_))
 ·repeat refine zX rfl ?_
  exact aj ⟨⟨rfl,rfl,rfl,rfl,trivial⟩,rfl⟩
 subst hw
 refine wp_block (cz hS (fun g E wr=>∃ (ag : Bool) (i : Nat) (out : List Bool),i ≤ next.length ∧ g = next.length - i ∧ E = [(1,Vp M),(3,Vs O next.length cO),(4,.bool ag),(5,Vi i)] ∧ RowKit.Below wc.heap.size wc wr ∧ Rows wc.heap.size wr [oB (Vs O next.length cO) out] ∧ LiveI L.toNat next fin out ∧
   (ag = false → out = out0 ∧ ∀ j,j < i → oy L.toNat next out j) ∧ (ag = true → ga out < ga out0))
  next.length ⟨false,0,out0,Nat.zero_le _,rfl,rfl,hK,hR,hI,fun _=>⟨rfl,fun j hj=>by omega⟩,fun h=>by cases h⟩ ?_)
 clear hK hR hI hS;rintro g1 E wr a1 ⟨ag,i,out,hi,rfl,rfl,hK,hR,hI,hstay,hless⟩ hS;refine wp_seq (wp_seq (ai [(1,Vp M),(3,Vs O next.length cO),(4,.bool ag),(5,Vi i),(15,.bool (decide ((i : Int) < next.length)))] (· = wr) af hS ?_ (fun a w6 hS hw=>?_)))
 ·repeat refine zX rfl ?_
  refine zC rfl (rfl) ?_;exact aj ⟨⟨rfl,rfl,rfl,rfl,rfl,trivial⟩,rfl⟩
 subst hw;refine cond hS rfl (fun hT=>?_) (fun hF=>?_)
 case refine_2=>
  refine wp_exit ?_
  repeat first|refine bf ?_|refine ba ?_|refine az rfl ?_
  have hge : i = next.length:=by have:=of_decide_eq_false hF; omega
  subst hge;refine ay ?_;refine ⟨2 * ga out + (if ag = true then 1 else 0),_,?_,⟨ag,out,rfl,rfl,hK,hR,hI,fun h=>(hstay h).2⟩,hS.sub ⟨rfl,rfl,rfl,trivial⟩⟩
  cases ag with
  | false=>rw [(hstay rfl).1]; simp
  | true=>have:=hless rfl; simp; omega
 have hlt : i < next.length:=by have:=of_decide_eq_true hT; omega
 obtain ⟨hrl,hrv⟩:=hs.rows i hlt;refine wp_skip ?_;refine wp_seq (wp_block ?_);refine wp_seq (ai [(1,Vp M),(3,Vs O next.length cO),(4,.bool ag),(5,Vi i),(6,Vi 0)] (· = w6) af hS ?_ (fun a w7 hS hw=>?_))
 ·repeat refine zX rfl ?_
  exact aj ⟨⟨rfl,rfl,rfl,rfl,rfl,trivial⟩,rfl⟩
 subst hw
 refine wp_block (cz hS (fun g E wr=>∃ (ag : Bool) (k : Nat) (out : List Bool),(k : Int) ≤ L ∧ g = L.toNat - k ∧ E = [(1,Vp M),(3,Vs O next.length cO),(4,.bool ag),(5,Vi i),(6,Vi k)] ∧ RowKit.Below wc.heap.size wc wr ∧ Rows wc.heap.size wr [oB (Vs O next.length cO) out] ∧ LiveI L.toNat next fin out ∧
   (ag = false → out = out0 ∧ (∀ j,j < i → oy L.toNat next out j) ∧ ∀ c,c < k → ∀ t : Nat,tgtM next i c = t → out.getD t false = false) ∧ (ag = true → ga out < ga out0) ∧ (k = 0 ∨ out.getD i false = true ∨ ∀ c,c < k → ∀ t : Nat,tgtM next i c = t → out.getD t false = false))
  L.toNat ⟨ag,0,out,hs.L0,rfl,rfl,hK,hR,hI,fun h=>⟨(hstay h).1,(hstay h).2,fun c hc=>by omega⟩,hless,.inl rfl⟩ ?_)
 clear hK hR hI hS hstay hless;rintro g2 E wr a1 ⟨ag,k,out,hk,rfl,rfl,hK,hR,hI,hstay,hless,hrow⟩ hS;have hol:=hI.len;have hio : i < out.length:=by omega
 obtain ⟨b28,hb28⟩ : ∃ b,(decide ((k : Int) < L) && !out.getD i false) = b:=⟨_,rfl⟩;refine wp_seq (wp_seq (ai [(1,Vp M),(3,Vs O next.length cO),(4,.bool ag),(5,Vi i),(6,Vi k),(28,.bool b28)] (· = wr) af hS ?_ (fun a w8 hS hw=>?_)))
 ·repeat refine zX rfl ?_
  refine zL rfl ((hx.keep hK).c0) ?_
  cases e1 : decide ((k : Int) < L)
  case false=>
   rw [e1,Bool.false_and] at hb28; subst hb28;refine zC rfl (e1) ?_
   repeat refine zX rfl ?_
   exact aj ⟨⟨rfl,rfl,rfl,rfl,rfl,rfl,trivial⟩,rfl⟩
  case true=>
   rw [e1,Bool.true_and,List.getD_eq_getElem?_getD,List.getElem?_eq_getElem hio] at hb28; subst hb28;refine zC rfl (e1) ?_
   repeat refine zX rfl ?_
   refine zI rfl (rfl) (hlt) ?_;refine zL rfl (hR.cellB (i:=0) rfl hio) ?_
   repeat refine zX rfl ?_
   exact aj ⟨⟨rfl,rfl,rfl,rfl,rfl,rfl,trivial⟩,rfl⟩
 subst hw;refine cond hS rfl (fun hT=>?_) (fun hF=>?_)
 case refine_2=>
  refine wp_exit ?_
  repeat first|refine bf ?_|refine ba ?_|refine az rfl ?_
  have hend : oy L.toNat next out i:=by
   rw [hF,Bool.and_eq_false_iff] at hb28
   rcases hb28 with h | h
   ·have hge:=of_decide_eq_false h
    rcases hrow with h0 | h0 | h0
    ·refine .inr fun c hc=>by omega
    ·exact .inl h0
    ·exact .inr fun c hc=>h0 c (by omega)
   ·exact .inl (by simpa using h)
  refine ay ?_;refine b4 ?_;refine ai [(1,Vp M),(3,Vs O next.length cO),(4,.bool ag),(5,Vi (i + 1 : Nat))] (· = w8) af hS ?_ (fun a w9 hS hw=>?_)
  ·repeat refine zX rfl ?_
   refine zN rfl (ck (by omega)) ?_
   repeat refine zX rfl ?_
   exact aj ⟨⟨rfl,rfl,rfl,rfl,trivial⟩,rfl⟩
  subst hw;refine ⟨next.length - (i + 1),_,by omega,⟨ag,i + 1,out,hlt,rfl,rfl,hK,hR,hI,fun h=>⟨(hstay h).1,fun j hj=>?_⟩,hless⟩,hS⟩
  rcases Nat.lt_or_ge j i with h1 | h1
  ·exact (hstay h).2.1 j h1
  ·obtain rfl : j = i:=by omega
   exact hend
 rw [hT,Bool.and_eq_true] at hb28;have hkL : (k : Int) < L:=of_decide_eq_true hb28.1;have hoi : out.getD i false = false:=by simpa using hb28.2
 have hkr : k < next[i].length:=by omega
 obtain ⟨t,ht⟩ : ∃ t,next[i][k] = t:=⟨_,rfl⟩;have htr:=hrv k hkr;rw [ht] at htr;have htg : tgtM next i k = t:=by rw [pw hlt hkr,ht]
 refine wp_skip ?_;refine wp_seq (wp_block ?_);obtain ⟨b52,hb52⟩ : ∃ b,(decide (0 ≤ t) && out.getD t.toNat false) = b:=⟨_,rfl⟩;refine wp_seq (ai [(1,Vp M),(3,Vs O next.length cO),(4,.bool ag),(5,Vi i),(6,Vi k),(52,.bool b52)] (· = w8) af hS ?_ (fun a w9 hS hw=>?_))
 ·obtain ⟨bn,on,cn,hvn,ar,cr,hc1,hc2⟩:=(hm.keep hK).cell hlt;obtain ⟨br,orr,rfl,hc3⟩:=hc2 k hkr;subst hvn;rw [ht] at hc3
  repeat refine zX rfl ?_
  refine zL rfl ((hx.keep hK).c2) ?_
  repeat refine zX rfl ?_
  refine zI rfl (rfl) (hlt) ?_;refine zL rfl (hc1) ?_
  repeat refine zX rfl ?_
  refine zI rfl (rfl) (hkr) ?_;refine zL rfl (hc3) ?_
  cases e1 : decide (0 ≤ t)
  case false=>
   rw [e1,Bool.false_and] at hb52; subst hb52;refine zC rfl (e1) ?_
   repeat refine zX rfl ?_
   exact aj ⟨⟨rfl,rfl,rfl,rfl,rfl,rfl,trivial⟩,rfl⟩
  case true=>
   obtain ⟨tn,rfl⟩:=Int.eq_ofNat_of_zero_le (of_decide_eq_true e1);have htn : tn < out.length:=by omega
   rw [e1,Bool.true_and,Int.toNat_natCast,List.getD_eq_getElem?_getD,List.getElem?_eq_getElem htn] at hb52;have hb52 : out[tn] = b52:=hb52;subst hb52;refine zC rfl (e1) ?_
   repeat refine zX rfl ?_
   refine zL rfl ((hx.keep hK).c2) ?_
   repeat refine zX rfl ?_
   refine zI rfl (rfl) (hlt) ?_;refine zL rfl (hc1) ?_
   repeat refine zX rfl ?_
   refine zI rfl (rfl) (hkr) ?_;refine zL rfl (hc3) ?_;refine zI rfl (rfl) ((by omega : tn < next.length)) ?_;refine zL rfl (hR.cellB (i:=0) rfl htn) ?_
   repeat refine zX rfl ?_
   exact aj ⟨⟨rfl,rfl,rfl,rfl,rfl,rfl,trivial⟩,rfl⟩
 subst hw
 refine cut (F:=fun a' w'=>∃ (ag' : Bool) (out' : List Bool),St Tryz.f80.ntmps a' [(1,Vp M),(3,Vs O next.length cO),(4,.bool ag'),(5,Vi i),(6,Vi k)] ∧ RowKit.Below wc.heap.size wc w' ∧ Rows wc.heap.size w' [oB (Vs O next.length cO) out'] ∧ LiveI L.toNat next fin out' ∧
   (ag' = false → out' = out0 ∧ (∀ j,j < i → oy L.toNat next out' j) ∧ ∀ c,c < k + 1 → ∀ t : Nat,tgtM next i c = t → out'.getD t false = false) ∧ (ag' = true → ga out' < ga out0) ∧ (out'.getD i false = true ∨ ∀ c,c < k + 1 → ∀ t : Nat,tgtM next i c = t → out'.getD t false = false)) ?_ ?_
 ·refine cond hS rfl (fun hT=>?_) (fun hF=>?_)
  ·rw [hT,Bool.and_eq_true] at hb52;obtain ⟨tn,rfl⟩:=Int.eq_ofNat_of_zero_le (of_decide_eq_true hb52.1);have htn : tn < next.length:=by omega
   refine wp_seq (ai [(1,Vp M),(3,Vs O next.length cO),(4,.bool ag),(5,Vi i),(6,Vi k)] (· = w9.setCell ⟨O,0 + i,none⟩ (.bool true)) af hS ?_ (fun a w10 hS hw=>?_))
   ·repeat refine zX rfl ?_
    refine zI rfl (rfl) (hlt) ?_;refine zS rfl rfl (hR.cellB (i:=0) rfl hio) (hR.freeI (i:=0) rfl i) ?_;exact aj ⟨⟨rfl,rfl,rfl,rfl,rfl,trivial⟩,rfl⟩
   obtain ⟨hR10,hg10⟩:=hR.storeB (i:=0) rfl i true;have hK10:=a6 hK hg10 (fun q hq=>by cases hq; exact (hR.lt (i:=0) rfl rfl).1);rw [← hw] at hR10 hK10;clear hw hg10;refine ai [(1,Vp M),(3,Vs O next.length cO),(4,.bool true),(5,Vi i),(6,Vi k)] (· = w10) af hS ?_ (fun a w11 hS hw=>?_)
   ·repeat refine zX rfl ?_
    exact aj ⟨⟨rfl,rfl,rfl,rfl,rfl,trivial⟩,rfl⟩
   subst hw;have hf:=qm hio hoi;have hset : (out.set i true).getD i false = true:=by rw [g6,if_pos ⟨rfl,hio⟩]
   refine ⟨true,out.set i true,hS,hK10,hR10,hI.set (c:=k) (by omega) htg htn (by simpa using hb52.2),(fun h=>by cases h),(fun _=>?_),.inl hset⟩
   cases ag with
   | false=>rw [← (hstay rfl).1]; omega
   | true=>have:=hless rfl; omega
  ·have hno : ∀ c,c < k + 1 → (∀ c,c < k → ∀ t : Nat,tgtM next i c = t → out.getD t false = false) → ∀ t : Nat,tgtM next i c = t → out.getD t false = false:=fun c hc hold q hq=>by
    rcases Nat.lt_or_ge c k with h1 | h1
    ·exact hold c h1 q hq
    ·obtain rfl : c = k:=by omega
     rw [htg] at hq;subst hq;rw [hF,decide_eq_true (by omega),Bool.true_and] at hb52
     simpa using hb52
   refine wp_skip ⟨ag,out,hS.sub ⟨rfl,rfl,rfl,rfl,rfl,trivial⟩,hK,hR,hI,fun h=>⟨(hstay h).1,(hstay h).2.1,fun c hc=>hno c hc (hstay h).2.2⟩,hless,?_⟩
   rcases hrow with h0 | h0 | h0
   ·exact .inr fun c hc=>hno c hc fun c' hc'=>by omega
   ·exact .inl h0
   ·exact .inr fun c hc=>hno c hc h0
 rintro a w10 ⟨ag',out',hS,hK',hR',hI',hstay',hless',hrow'⟩;refine ay ?_;refine b4 ?_;refine ai [(1,Vp M),(3,Vs O next.length cO),(4,.bool ag'),(5,Vi i),(6,Vi (k + 1 : Nat))] (· = w10) af hS ?_ (fun a w11 hS hw=>?_)
 ·have hL:=hm.L.2
  repeat refine zX rfl ?_
  refine zN rfl (ck (by omega)) ?_
  repeat refine zX rfl ?_
  exact aj ⟨⟨rfl,rfl,rfl,rfl,rfl,trivial⟩,rfl⟩
 subst hw;exact ⟨L.toNat - (k + 1),_,by omega,⟨ag',k + 1,out',by omega,rfl,rfl,hK',hR',hI',hstay',hless',.inr hrow'⟩,hS⟩
end
section
open Go Sym
theorem en_live : bk Tryz.prog 80 = true:=by kernel_rfl
theorem ajo : bk Tryz.prog 81 = true:=by kernel_rfl
def ng (fin lv : List Bool) (i : Nat) : Int:=if lv.getD i false = true then (if fin.getD i false = true then 1 else 0) else -1
structure FillI (n i : Nat) (f : Nat → Int) (l : List Int) : Prop where
 len : l.length = n
 val : ∀ j,j < i → l.getD j 0 = f j
theorem FillI.set {n i : Nat} {f : Nat → Int} {l : List Int} (h : FillI n i f l) {x : Int} (hi : i < n) (hx : x = f i) : FillI n (i + 1) f (l.set i x):=
 ⟨by simp [h.len],fun j hj=>by
  rw [dp]
  split
  ·rename_i e; rw [hx,e.1]
  ·rename_i e;refine h.val j ?_;have : ¬ i = j:=fun e2=>e ⟨e2,by rw [h.len]; exact hi⟩
   omega⟩
theorem aa7 (L s : Int) (vn ve : Value) (next : List (List Int)) (fin : List Bool) (w : World) (hm : Ma w L s next fin vn ve) (hs : Shape L s next fin) (hn : next.length ≤ 100000000) :
  Calls Tryz.prog 51 #[.agg #[Vi L,Vi s,vn,ve]] w fun e w'=>∃ (g c : Nat) (cls : List Int) (m : Nat),e = .returned (Vs g next.length c) ∧ Rows w.heap.size w' [oI (Vs g next.length c) cls] ∧ RowKit.Below w.heap.size w w' ∧ Cls L.toNat next fin cls m:=by
 refine Sym.c8 (args:=[.agg #[Vi L,Vi s,vn,ve]]) Tryz.func51 rfl rfl rfl (fun a0 hS0=>?_);have hs' : Shape (L.toNat : Int) s next fin:=by rw [Int.toNat_of_nonneg hs.L0]; exact hs
 obtain ⟨M,hM⟩ : ∃ M,M = w.heap.size:=⟨_,rfl⟩;refine wp_seq (ai [(1,Vp M)] (· = w.alloc (.cells #[Vi L,Vi s,vn,ve] 25)) af hS0 ?_ (fun a wc hS hw=>?_))
 ·subst hM;refine zB rfl ?_
  repeat refine zX rfl ?_
  exact aj ⟨⟨rfl,trivial⟩,rfl⟩
 have hB : RowKit.Below w.heap.size w wc:=by rw [hw]; exact ao _ _
 have hx : Box wc M L s vn ve:=by rw [hw,hM]; exact Box.new _ _ _ _ _ _
 clear hw;replace hm:=hm.keep hB;have hfn:=hs.fin;have hfn':=hs.fin;refine wp_seq (bg (α:=Nat × Nat × List Bool) (fun x=>[(1,Vp M),(3,Vs x.1 next.length x.2.1)]) (fun x w'=>Rows wc.heap.size w' [oB (Vs x.1 next.length x.2.1) x.2.2] ∧ RowKit.Below wc.heap.size wc w' ∧ x.2.2.length = next.length ∧ ∀ i : Nat,i < next.length → (x.2.2.getD i false = true ↔ Live L.toNat next fin i)) af hS ?_ (fun x a w1 hS h1=>?_))
 ·refine zA ([Vi L,Vi s,vn,ve]) rfl rfl (hx.cells) ?_;refine zF rfl (en_live) (ai1 L s vn ve next fin _ hm hs hn) ?_;rintro e w1 ⟨g,c,lv,rfl,h1,h2,h3,h4⟩;refine ⟨_,rfl,?_⟩
  repeat refine zX rfl ?_
  exact aj ⟨(g,c,lv),⟨rfl,rfl,trivial⟩,h1,h2,h3,h4⟩
 obtain ⟨G,cG,lv⟩:=x;obtain ⟨hR,hK,hlvl,hlv⟩:=h1;dsimp only at hS hR hlvl hlv;obtain ⟨O,hO⟩ : ∃ O,O = w1.heap.size:=⟨_,rfl⟩;refine wp_seq (ai [(1,Vp M),(3,Vs G next.length cG),(4,Vs O next.length next.length)] (· = w1.alloc (.cells (madeCells #[Vi 0] next.length) 3)) af hS ?_ (fun a w2 hS hw=>?_))
 ·obtain ⟨an,cn,hvn⟩:=hm.n.len;subst hvn;subst hO
  repeat refine zX rfl ?_
  refine zL rfl ((hx.keep hK).c2) ?_
  repeat refine zX rfl ?_
  refine zM (next.length) rfl rfl rfl rfl rfl ((by show 8 * _ ≤ _; omega)) ((by omega)) ?_
  repeat refine zX rfl ?_
  exact aj ⟨⟨rfl,rfl,rfl,trivial⟩,rfl⟩
 have hR2:=hR.makeI hK.size (n:=next.length) (by omega);have hK2:=ak hK (ao w1 (.cells (madeCells #[Vi 0] next.length) 3));rw [← hw,← hO] at hR2;rw [← hw] at hK2;clear hw hR hK hO;refine wp_seq (wp_seq (ai [(1,Vp M),(3,Vs G next.length cG),(4,Vs O next.length next.length),(5,Vi 0)] (· = w2) af hS ?_ (fun a w3 hS hw=>?_)))
 ·repeat refine zX rfl ?_
  exact aj ⟨⟨rfl,rfl,rfl,rfl,trivial⟩,rfl⟩
 subst hw
 refine wp_block (cz hS (fun g E wr=>∃ (i : Nat) (out : List Int),i ≤ next.length ∧ g = next.length - i ∧ E = [(1,Vp M),(3,Vs G next.length cG),(4,Vs O next.length next.length),(5,Vi i)] ∧ RowKit.Below wc.heap.size wc wr ∧ Rows wc.heap.size wr [oI (Vs O next.length next.length) out,oB (Vs G next.length cG) lv] ∧ FillI next.length i (ng fin lv) out)
  next.length ⟨0,_,Nat.zero_le _,rfl,rfl,hK2,hR2,⟨by simp,fun j hj=>by omega⟩⟩ ?_)
 clear hK2 hR2 hS;rintro g0 E wr a1 ⟨i,out,hi,rfl,rfl,hK,hR,hI⟩ hS;have hol:=hI.len;refine wp_seq (wp_seq (ai [(1,Vp M),(3,Vs G next.length cG),(4,Vs O next.length next.length),(5,Vi i),(20,.bool (decide ((i : Int) < next.length)))] (· = wr) af hS ?_ (fun a w3 hS hw=>?_)))
 ·repeat refine zX rfl ?_
  refine zC rfl (rfl) ?_;exact aj ⟨⟨rfl,rfl,rfl,rfl,rfl,trivial⟩,rfl⟩
 subst hw;refine cond hS rfl (fun hT=>?_) (fun hF=>?_)
 case refine_1=>
  have hlt : i < next.length:=by have:=of_decide_eq_true hT; omega
  have hio : i < out.length:=by omega
  refine wp_skip ?_;refine wp_seq (wp_block ?_);refine wp_seq (ai [(1,Vp M),(3,Vs G next.length cG),(4,Vs O next.length next.length),(5,Vi i)] (· = w3.setCell ⟨O,0 + i,none⟩ (Vi (-1))) af hS ?_ (fun a w4 hS hw=>?_))
  ·repeat refine zX rfl ?_
   refine zI rfl (rfl) (hlt) ?_;refine zS rfl rfl (hR.cellI (i:=0) rfl hio) (hR.freeI (i:=0) rfl i) ?_;exact aj ⟨⟨rfl,rfl,rfl,rfl,trivial⟩,rfl⟩
  obtain ⟨hR4,hg4⟩:=hR.storeI (i:=0) rfl i (-1);have hK4:=a6 hK hg4 (fun q hq=>by cases hq; exact (hR.lt (i:=0) rfl rfl).1);rw [← hw] at hR4 hK4;clear hw hg4 hR hK;dsimp only [List.set_cons_zero] at hR4;refine wp_seq (ai [(1,Vp M),(3,Vs G next.length cG),(4,Vs O next.length next.length),(5,Vi i),(29,.bool lv[i])] (· = w4) af hS ?_ (fun a w5 hS hw=>?_))
  ·repeat refine zX rfl ?_
   refine zI rfl (rfl) (hlt) ?_;refine zL rfl (hR4.cellB (i:=1) rfl (show i < lv.length by omega)) ?_;exact aj ⟨⟨rfl,rfl,rfl,rfl,rfl,trivial⟩,rfl⟩
  subst hw;have hlvi : lv.getD i false = lv[i]:=by simp [List.getD_eq_getElem?_getD,hlvl,hlt]
  have hfi : fin.getD i false = fin[i]:=by simp [List.getD_eq_getElem?_getD,hfn,hlt]
  refine cut (F:=fun a' w'=>∃ out' : List Int,St Tryz.f51.ntmps a' [(1,Vp M),(3,Vs G next.length cG),(4,Vs O next.length next.length),(5,Vi i)] ∧ RowKit.Below wc.heap.size wc w' ∧ Rows wc.heap.size w' [oI (Vs O next.length next.length) out',oB (Vs G next.length cG) lv] ∧ FillI next.length (i + 1) (ng fin lv) out') ?_ ?_
  ·refine cond hS rfl (fun hT=>?_) (fun hF=>?_)
   ·refine wp_seq (ai [(1,Vp M),(3,Vs G next.length cG),(4,Vs O next.length next.length),(5,Vi i)] (· = w5.setCell ⟨O,0 + i,none⟩ (Vi 0)) af hS ?_ (fun a w6 hS hw=>?_))
    ·repeat refine zX rfl ?_
     refine zI rfl (rfl) (hlt) ?_;refine zS rfl rfl (hR4.cellI (i:=0) rfl (by simpa using hio)) (hR4.freeI (i:=0) rfl i) ?_;exact aj ⟨⟨rfl,rfl,rfl,rfl,trivial⟩,rfl⟩
    obtain ⟨hR6,hg6⟩:=hR4.storeI (i:=0) rfl i 0;have hK6:=a6 hK4 hg6 (fun q hq=>by cases hq; exact (hR4.lt (i:=0) rfl rfl).1);rw [← hw] at hR6 hK6;clear hw hg6 hR4 hK4;dsimp only [List.set_cons_zero] at hR6;rw [List.set_set] at hR6;refine wp_seq (ai [(1,Vp M),(3,Vs G next.length cG),(4,Vs O next.length next.length),(5,Vi i),(37,.bool fin[i])] (· = w6) af hS ?_ (fun a w7 hS hw=>?_))
    ·obtain ⟨be,oe,ce,hve,hc⟩:=(hm.keep hK6).end (i:=i) (by omega);subst hve
     repeat refine zX rfl ?_
     refine zL rfl ((hx.keep hK6).c3) ?_
     repeat refine zX rfl ?_
     refine zI rfl (rfl) ((by omega : i < fin.length)) ?_;refine zL rfl (hc) ?_;exact aj ⟨⟨rfl,rfl,rfl,rfl,rfl,trivial⟩,rfl⟩
    subst hw;refine cond hS rfl (fun hT2=>?_) (fun hF2=>?_)
    ·refine ai [(1,Vp M),(3,Vs G next.length cG),(4,Vs O next.length next.length),(5,Vi i)] (· = w7.setCell ⟨O,0 + i,none⟩ (Vi 1)) af hS ?_ (fun a w8 hS hw=>?_)
     ·repeat refine zX rfl ?_
      refine zI rfl (rfl) (hlt) ?_;refine zS rfl rfl (hR6.cellI (i:=0) rfl (by simpa using hio)) (hR6.freeI (i:=0) rfl i) ?_;exact aj ⟨⟨rfl,rfl,rfl,rfl,trivial⟩,rfl⟩
     obtain ⟨hR8,hg8⟩:=hR6.storeI (i:=0) rfl i 1;have hK8:=a6 hK6 hg8 (fun q hq=>by cases hq; exact (hR6.lt (i:=0) rfl rfl).1);rw [← hw] at hR8 hK8;dsimp only [List.set_cons_zero] at hR8;rw [List.set_set] at hR8;exact ⟨_,hS,hK8,hR8,hI.set hlt (by rw [ng,hlvi,hT,hfi,hT2]; rfl)⟩
    ·exact wp_skip ⟨_,hS.sub ⟨rfl,rfl,rfl,rfl,trivial⟩,hK6,hR6,hI.set hlt (by rw [ng,hlvi,hT,hfi,hF2]; rfl)⟩
   ·exact wp_skip ⟨_,hS.sub ⟨rfl,rfl,rfl,rfl,trivial⟩,hK4,hR4,hI.set hlt (by rw [ng,hlvi,hF]; rfl)⟩
  rintro a w6 ⟨out',hS,hK',hR',hI'⟩;refine ay ?_;refine b4 ?_;refine ai [(1,Vp M),(3,Vs G next.length cG),(4,Vs O next.length next.length),(5,Vi (i + 1 : Nat))] (· = w6) af hS ?_ (fun a w9 hS hw=>?_)
  ·repeat refine zX rfl ?_
   refine zN rfl (ck (by omega)) ?_
   repeat refine zX rfl ?_
   exact aj ⟨⟨rfl,rfl,rfl,rfl,trivial⟩,rfl⟩
  subst hw;exact ⟨next.length - (i + 1),_,by omega,⟨i + 1,out',hlt,rfl,rfl,hK',hR',hI'⟩,hS⟩
 refine wp_exit ?_
 repeat first|refine bf ?_|refine ba ?_|refine az rfl ?_
 obtain rfl : i = next.length:=by have:=of_decide_eq_false hF; omega
 have href : Ref L.toNat next fin out 0:=afk hlv hol (fun i hi=>hI.val i hi)
 have hrg : ∀ x ∈ out,-1 ≤ x ∧ x ≤ next.length:=fun x hx=>by
  obtain ⟨j,hj,rfl⟩:=List.mem_iff_getElem.1 hx
  have:=hI.val j (by omega)
  rw [d9 hj,ng] at this;rw [this]
  split
  ·split <;> omega
  ·omega
 have hR3:=hR.erase 1;dsimp only [List.eraseIdx_cons_succ,List.eraseIdx_cons_zero] at hR3;refine wp_seq (ai [(1,Vp M),(4,Vs O next.length next.length),(6,Vi 0)] (· = w3) af hS ?_ (fun a w4 hS hw=>?_))
 ·repeat refine zX rfl ?_
  exact aj ⟨⟨rfl,rfl,rfl,trivial⟩,rfl⟩
 subst hw
 refine wp_block (cz hS (fun g E wr=>∃ (O cO count : Nat) (out : List Int),count ≤ next.length ∧ g = next.length + 1 - count ∧ E = [(1,Vp M),(4,Vs O next.length cO),(6,Vi count)] ∧ RowKit.Below wc.heap.size wc wr ∧ Rows wc.heap.size wr [oI (Vs O next.length cO) out] ∧ Ref L.toNat next fin out count ∧ (∀ x ∈ out,-1 ≤ x ∧ x ≤ next.length) ∧ (∀ i,i < next.length → out.getD i 0 < count ∨ count = 0))
  (next.length + 1) ⟨O,next.length,0,out,Nat.zero_le _,rfl,rfl,hK,hR3,href,hrg,fun _ _=>.inr rfl⟩ ?_)
 clear hR hR3 hK hS hI hol hF href hrg hlv hlvl;rintro g0 E wr a1 ⟨O,cO,count,out,hcn,rfl,rfl,hK,hR,href,hrg,htop⟩ hS;have hol:=href.len;refine wp_block ?_;obtain ⟨X,hX⟩ : ∃ X,X = wr.heap.size:=⟨_,rfl⟩;refine wp_seq (ai [(1,Vp M),(4,Vs O next.length cO),(6,Vi count),(7,Vs X next.length next.length)] (· = wr.alloc (.cells (madeCells #[Vi 0] next.length) 3)) af hS ?_ (fun a w4 hS hw=>?_))
 ·subst hX
  repeat refine zX rfl ?_
  refine zM (next.length) rfl rfl rfl rfl rfl ((by show 8 * _ ≤ _; omega)) ((by omega)) ?_
  repeat refine zX rfl ?_
  exact aj ⟨⟨rfl,rfl,rfl,rfl,trivial⟩,rfl⟩
 have hR4:=hR.makeI hK.size (n:=next.length) (by omega);have hK4:=ak hK (ao wr (.cells (madeCells #[Vi 0] next.length) 3));rw [← hw,← hX] at hR4;rw [← hw] at hK4;clear hw hR hK hX;obtain ⟨nx0,hnx0⟩ : ∃ l,List.replicate next.length (0 : Int) = l:=⟨_,rfl⟩;have hnl : nx0.length = next.length:=by rw [← hnx0]; simp
 have hnr : ∀ x ∈ nx0,-1 ≤ x ∧ x ≤ next.length:=fun x hx=>by
  rw [← hnx0] at hx;rw [(List.mem_replicate.1 hx).2]; omega
 rw [hnx0] at hR4;clear hnx0;refine wp_seq (bg (α:=Value) (fun v=>[(1,Vp M),(4,Vs O next.length cO),(6,Vi count),(7,Vs X next.length next.length),(8,v)]) (fun v w'=>RowKit.Below wc.heap.size wc w' ∧ Rows wc.heap.size w' [oI v [],oI (Vs X next.length next.length) nx0,oI (Vs O next.length cO) out]) af hS ?_ (fun vf a w5 hS h5=>?_))
 ·repeat refine zX rfl ?_
  refine b8 rfl rfl rfl ?_;refine exI [] (exI #[] (anI (anI rfl rfl) (anI (by decide) (anI (by simp [Instr.fill,madeCells]) ?_))))
  repeat refine zX rfl ?_
  exact aj ⟨_,⟨rfl,rfl,rfl,rfl,rfl,trivial⟩,ak hK4 (ao _ _),hR4.litI hK4.size⟩
 clear hK4 hR4;obtain ⟨hK,hR⟩:=h5;refine wp_seq (wp_seq (ai [(1,Vp M),(4,Vs O next.length cO),(6,Vi count),(7,Vs X next.length next.length),(8,vf),(9,Vi 0)] (· = w5) af hS ?_ (fun a w6 hS hw=>?_)))
 ·repeat refine zX rfl ?_
  exact aj ⟨⟨rfl,rfl,rfl,rfl,rfl,rfl,trivial⟩,rfl⟩
 subst hw
 refine wp_block (cz hS (fun g E wr=>∃ (i : Nat) (vf : Value) (nx fs : List Int),i ≤ next.length ∧ g = next.length - i ∧ E = [(1,Vp M),(4,Vs O next.length cO),(6,Vi count),(7,Vs X next.length next.length),(8,vf),(9,Vi i)] ∧ RowKit.Below wc.heap.size wc wr ∧ Rows wc.heap.size wr [oI vf fs,oI (Vs X next.length next.length) nx,oI (Vs O next.length cO) out] ∧ PassI L.toNat next out i nx fs ∧ (∀ x ∈ nx,-1 ≤ x ∧ x ≤ next.length))
  next.length ⟨0,vf,nx0,[],Nat.zero_le _,rfl,rfl,hK,hR,PassI.start hnl,hnr⟩ ?_)
 clear hK hR hS hnl hnr;rintro g1 E wr a1 ⟨i,vf,nx,fs,hi,rfl,rfl,hK,hR,hP,hnr⟩ hS;have hnl:=hP.len;have hcap:=hP.cap hi;obtain ⟨b48,hb48⟩ : ∃ b,decide ((i : Int) < next.length) = b:=⟨_,rfl⟩;refine wp_seq (wp_seq (ai [(1,Vp M),(4,Vs O next.length cO),(6,Vi count),(7,Vs X next.length next.length),(8,vf),(9,Vi i),(48,.bool b48)] (· = wr) af hS ?_ (fun a w6 hS hw=>?_)))
 ·repeat refine zX rfl ?_
  refine zC rfl (hb48) ?_;exact aj ⟨⟨rfl,rfl,rfl,rfl,rfl,rfl,rfl,trivial⟩,rfl⟩
 subst hw
 have hfsI : ∀ x ∈ fs,I64 x:=fun x hx=>by
  obtain ⟨k,hk,rfl⟩:=List.mem_iff_getElem.1 hx;obtain ⟨f,h1,h2,_⟩:=hP.fst k hk;rw [d9 hk] at h1;rw [h1];exact ⟨by omega,by omega⟩
 obtain ⟨⟨av,bv,ov,cv,rfl,v1,v2,v3,-⟩,-⟩:=hR.slI (i:=0) rfl hfsI;refine cond hS rfl (fun hT=>?_) (fun hF=>?_)
 case refine_2=>
  refine wp_exit ?_
  repeat first|refine bf ?_|refine ba ?_|refine az rfl ?_
  rw [hF] at hb48;obtain rfl : i = next.length:=by have:=of_decide_eq_false hb48; omega
  have hpass:=hP.done;have href2:=hpass.ref hs' href;obtain ⟨hle,-⟩:=hpass.count href;have hR2:=(hR.erase 2).erase 0;dsimp only [List.eraseIdx_cons_succ,List.eraseIdx_cons_zero] at hR2;refine wp_seq (ai [(1,Vp M),(4,Vs X next.length next.length),(6,Vi count),(8,.slice av fs.length cv)] (· = w6) af hS ?_ (fun a w7 hS hw=>?_))
  ·repeat refine zX rfl ?_
   exact aj ⟨⟨rfl,rfl,rfl,rfl,trivial⟩,rfl⟩
  subst hw;refine wp_seq (wp_seq (ai [(1,Vp M),(4,Vs X next.length next.length),(6,Vi count),(8,.slice av fs.length cv),(104,.bool (decide ((fs.length : Int) = count)))] (· = w7) af hS ?_ (fun a w8 hS hw=>?_)))
  ·repeat refine zX rfl ?_
   refine zC rfl (rfl) ?_;exact aj ⟨⟨rfl,rfl,rfl,rfl,rfl,trivial⟩,rfl⟩
  subst hw;refine cond hS rfl (fun hT=>?_) (fun hF=>?_)
  ·refine wp_seq (ai [(2,Vs X next.length next.length)] (· = w8) af hS ?_ (fun a w9 hS hw=>?_))
   ·repeat refine zX rfl ?_
    exact aj ⟨⟨rfl,trivial⟩,rfl⟩
   subst hw;have he : fs.length = count:=by have:=of_decide_eq_true hT; omega
   rw [he] at hpass;refine wp_ret ?_
   repeat first|refine a8 ?_|refine am ?_
   exact ret1 hS rfl rfl ⟨X,next.length,nx,count,rfl,hR2.mono hB.size,ak hB hK,hpass.done hs' href htop⟩
  ·have hne : fs.length ≠ count:=by have:=of_decide_eq_false hF; omega
   refine wp_skip ?_;refine ai [(1,Vp M),(4,Vs X next.length next.length),(6,Vi (fs.length : Nat))] (· = w8) af hS ?_ (fun a w9 hS hw=>?_)
   ·repeat refine zX rfl ?_
    exact aj ⟨⟨rfl,rfl,rfl,trivial⟩,rfl⟩
   subst hw;refine ay ?_;refine ⟨next.length + 1 - fs.length,_,by omega,⟨X,next.length,fs.length,nx,by omega,rfl,rfl,hK,hR2,href2,hnr,fun i hi=>?_⟩,hS⟩
   by_cases h0 : 0 ≤ out.getD i 0
   ·exact .inl (hpass.pos i hi h0).2
   ·rw [hpass.neg i hi (by omega)];exact .inl (by omega)
 rw [hT] at hb48;have hlt : i < next.length:=by have:=of_decide_eq_true hb48; omega
 have hinx : i < nx.length:=by omega
 have hio : i < out.length:=by omega
 refine wp_skip ?_;refine wp_seq (wp_block ?_);refine wp_seq (ai [(1,Vp M),(4,Vs O next.length cO),(6,Vi count),(7,Vs X next.length next.length),(8,.slice av fs.length cv),(9,Vi i)] (· = w6.setCell ⟨X,0 + i,none⟩ (Vi (-1))) af hS ?_ (fun a w7 hS hw=>?_))
 ·repeat refine zX rfl ?_
  refine zI rfl (rfl) (hlt) ?_;refine zS rfl rfl (hR.cellI (i:=1) rfl hinx) (hR.freeI (i:=1) rfl i) ?_;exact aj ⟨⟨rfl,rfl,rfl,rfl,rfl,rfl,trivial⟩,rfl⟩
 obtain ⟨hR7,hg7⟩:=hR.storeI (i:=1) rfl i (-1);have hK7:=a6 hK hg7 (fun q hq=>by cases hq; exact (hR.lt (i:=1) rfl rfl).1);rw [← hw] at hR7 hK7;clear hw hg7 hR hK;dsimp only [List.set_cons_zero,List.set_cons_succ] at hR7;obtain ⟨o,ho⟩ : ∃ o,out[i] = o:=⟨_,rfl⟩;have hoi : out.getD i 0 = o:=by rw [d9 hio,ho]
 refine wp_seq (cut (F:=fun a' w'=>∃ nx' : List Int,St Tryz.f51.ntmps a' [(1,Vp M),(4,Vs O next.length cO),(6,Vi count),(7,Vs X next.length next.length),(8,.slice av fs.length cv),(9,Vi i)] ∧ RowKit.Below wc.heap.size wc w' ∧ Rows wc.heap.size w' [oI (.slice av fs.length cv) fs,oI (Vs X next.length next.length) nx',oI (Vs O next.length cO) out] ∧
   ((o < 0 ∧ nx' = nx.set i (-1)) ∨ (0 ≤ o ∧ ∃ k : Nat,k < fs.length ∧ gx next out i (fs.getD k 0).toNat L.toNat = true ∧ nx' = nx.set i k) ∨ (0 ≤ o ∧ nx' = nx.set i (-1) ∧ ∀ k,k < fs.length → gx next out i (fs.getD k 0).toNat L.toNat = false))) ?_ ?_)
 ·refine wp_seq (ai [(1,Vp M),(4,Vs O next.length cO),(6,Vi count),(7,Vs X next.length next.length),(8,.slice av fs.length cv),(9,Vi i),(10,Vi 0)] (· = w7) af hS ?_ (fun a w8 hS hw=>?_))
  ·repeat refine zX rfl ?_
   exact aj ⟨⟨rfl,rfl,rfl,rfl,rfl,rfl,rfl,trivial⟩,rfl⟩
  subst hw
  refine wp_block (cz hS (fun g E wr=>∃ k : Nat,k ≤ fs.length ∧ g = fs.length - k ∧ E = [(1,Vp M),(4,Vs O next.length cO),(6,Vi count),(7,Vs X next.length next.length),(8,.slice av fs.length cv),(9,Vi i),(10,Vi k)] ∧ RowKit.Below wc.heap.size wc wr ∧ Rows wc.heap.size wr [oI (.slice av fs.length cv) fs,oI (Vs X next.length next.length) (nx.set i (-1)),oI (Vs O next.length cO) out] ∧ (∀ j,j < k → gx next out i (fs.getD j 0).toNat L.toNat = false))
   fs.length ⟨0,Nat.zero_le _,rfl,rfl,hK7,hR7,fun j hj=>by omega⟩ ?_)
  clear hK7 hR7 hS;rintro g2 E wr a1 ⟨k,hk,rfl,rfl,hK,hR,hno⟩ hS;obtain ⟨b64,hb64⟩ : ∃ b,(decide ((k : Int) < fs.length) && decide (0 ≤ o)) = b:=⟨_,rfl⟩;refine wp_seq (wp_seq (ai [(1,Vp M),(4,Vs O next.length cO),(6,Vi count),(7,Vs X next.length next.length),(8,.slice av fs.length cv),(9,Vi i),(10,Vi k),(64,.bool b64)] (· = wr) af hS ?_ (fun a w9 hS hw=>?_)))
  ·repeat refine zX rfl ?_
   cases e1 : decide ((k : Int) < fs.length)
   case false=>
    rw [e1,Bool.false_and] at hb64; subst hb64;refine zC rfl (e1) ?_
    repeat refine zX rfl ?_
    exact aj ⟨⟨rfl,rfl,rfl,rfl,rfl,rfl,rfl,rfl,trivial⟩,rfl⟩
   case true=>
    rw [e1,Bool.true_and,← ho] at hb64;refine zC rfl (e1) ?_
    repeat refine zX rfl ?_
    refine zI rfl (rfl) (hlt) ?_;refine zL rfl (hR.cellI (i:=2) rfl hio) ?_;refine zC rfl (hb64) ?_
    repeat refine zX rfl ?_
    exact aj ⟨⟨rfl,rfl,rfl,rfl,rfl,rfl,rfl,rfl,trivial⟩,rfl⟩
  subst hw;refine cond hS rfl (fun hT=>?_) (fun hF=>?_)
  case refine_2=>
   refine wp_exit ?_
   repeat first|refine bf ?_|refine ba ?_|refine az rfl ?_
   refine ⟨_,hS.sub ⟨rfl,rfl,rfl,rfl,rfl,rfl,trivial⟩,hK,hR,?_⟩;rw [hF,Bool.and_eq_false_iff,decide_eq_false_iff_not,decide_eq_false_iff_not] at hb64
   by_cases h0 : o < 0
   ·exact .inl ⟨h0,rfl⟩
   ·exact .inr (.inr ⟨by omega,rfl,fun j hj=>hno j (by omega)⟩)
  rw [hT,Bool.and_eq_true,decide_eq_true_eq,decide_eq_true_eq] at hb64;have hkf : k < fs.length:=by omega
  obtain ⟨f,hf1,hf2,hf3,hf4⟩:=hP.fst k hkf;have hfk : fs[k] = (f : Int):=by rw [← hf1,d9 hkf]
  obtain rfl:=v1 (by omega);refine wp_skip ?_;refine wp_seq (wp_block ?_);obtain ⟨b74,hb74⟩ : ∃ b,gx next out i f L.toNat = b:=⟨_,rfl⟩;have hoI : ∀ x ∈ out,I64 x:=fun x hx=>by have:=hrg x hx; exact ⟨by omega,by omega⟩
  have hcfs : w9.cell? ⟨bv,ov + k,none⟩ = some (Vi f):=by
   obtain ⟨⟨_,b',o',_,e,u1,_,_,u4⟩,_⟩:=hR.slI (i:=0) rfl hfsI;have e2:=u1 (by omega);subst e2;simp only [Value.slice.injEq,Option.some.injEq,Addr.mk.injEq] at e;obtain ⟨y,hy1,hy2,_⟩:=u4 k hkf;rw [← e.1.1,← e.1.2.1] at hy1;rw [hy1,hy2,hfk]
  refine wp_seq (b6 [(1,Vp M),(4,Vs O next.length cO),(6,Vi count),(7,Vs X next.length next.length),(8,.slice (some ⟨bv,ov,none⟩) fs.length cv),(9,Vi i),(10,Vi k),(74,.bool b74)] af dc (by kernel_rfl) hS ?_ (fun a w10 hS hw=>?_))
  ·subst hb74;refine qA ([Vi L,Vi s,vn,ve]) rfl rfl ((hx.keep hK).cells) ?_
   repeat refine qX rfl ?_
   refine qI rfl (rfl) (hkf) ?_;refine qL rfl (hcfs) ?_;refine qF (.bool (gx next out i f L.toNat)) rfl (ajo) (fun w1 h1=>aht L s vn ve _ next fin out i f w1 ((hm.keep hK).keep h1) hs ((hR.slI (i:=2) rfl hoI).1.keep h1 (fun _ _ h=>h)) hol hlt (by omega)) ?_;exact fa ⟨rfl,rfl,rfl,rfl,rfl,rfl,rfl,rfl,trivial⟩
  have hK10:=ak hK hw;have hR10:=hR.below hw;clear hw hK hR hcfs;refine cond hS rfl (fun hT=>?_) (fun hF=>?_)
  ·rw [hT] at hb74;refine wp_seq (ai [(1,Vp M),(4,Vs O next.length cO),(6,Vi count),(7,Vs X next.length next.length),(8,.slice (some ⟨bv,ov,none⟩) fs.length cv),(9,Vi i)] (· = w10.setCell ⟨X,0 + i,none⟩ (Vi k)) af hS ?_ (fun a w11 hS hw=>?_))
   ·repeat refine zX rfl ?_
    refine zI rfl (rfl) (hlt) ?_;refine zS rfl rfl (hR10.cellI (i:=1) rfl (by simpa using hinx)) (hR10.freeI (i:=1) rfl i) ?_;exact aj ⟨⟨rfl,rfl,rfl,rfl,rfl,rfl,trivial⟩,rfl⟩
   obtain ⟨hR11,hg11⟩:=hR10.storeI (i:=1) rfl i k;have hK11:=a6 hK10 hg11 (fun q hq=>by cases hq; exact (hR10.lt (i:=1) rfl rfl).1);rw [← hw] at hR11 hK11;dsimp only [List.set_cons_zero,List.set_cons_succ] at hR11;rw [List.set_set] at hR11;refine wp_exit ?_
   repeat first|refine bf ?_|refine ba ?_|refine az rfl ?_
   exact ⟨_,hS,hK11,hR11,.inr (.inl ⟨hb64.2,k,hkf,by rw [hf1,Int.toNat_natCast]; exact hb74,rfl⟩)⟩
  ·rw [hF] at hb74;refine wp_skip ?_;refine ay ?_;refine b4 ?_;refine ai [(1,Vp M),(4,Vs O next.length cO),(6,Vi count),(7,Vs X next.length next.length),(8,.slice (some ⟨bv,ov,none⟩) fs.length cv),(9,Vi i),(10,Vi (k + 1 : Nat))] (· = w10) af hS ?_ (fun a w11 hS hw=>?_)
   ·repeat refine zX rfl ?_
    refine zN rfl (ck (by omega)) ?_
    repeat refine zX rfl ?_
    exact aj ⟨⟨rfl,rfl,rfl,rfl,rfl,rfl,rfl,trivial⟩,rfl⟩
   subst hw;refine ⟨fs.length - (k + 1),_,by omega,⟨k + 1,hkf,rfl,rfl,hK10,hR10,fun j hj=>?_⟩,hS⟩
   rcases Nat.lt_or_ge j k with h1 | h1
   ·exact hno j h1
   ·obtain rfl : j = k:=by omega
    rw [hf1,Int.toNat_natCast]; exact hb74
 clear hK7 hR7 hS;rintro a w8 ⟨nx',hS,hK,hR,hcase⟩
 have hnl' : i < nx'.length:=by
  rcases hcase with ⟨_,e⟩ | ⟨_,k,_,_,e⟩ | ⟨_,e,_⟩ <;> rw [e] <;> simpa using hinx
 obtain ⟨b90,hb90⟩ : ∃ b,(decide (0 ≤ o) && decide (nx'[i] < 0)) = b:=⟨_,rfl⟩;refine wp_seq (ai [(1,Vp M),(4,Vs O next.length cO),(6,Vi count),(7,Vs X next.length next.length),(8,.slice av fs.length cv),(9,Vi i),(90,.bool b90)] (· = w8) af hS ?_ (fun a w9 hS hw=>?_))
 ·repeat refine zX rfl ?_
  refine zI rfl (rfl) (hlt) ?_;refine zL rfl (hR.cellI (i:=2) rfl hio) ?_;rw [← ho] at hb90
  cases e1 : decide (0 ≤ out[i])
  case false=>
   rw [e1,Bool.false_and] at hb90; subst hb90;refine zC rfl (e1) ?_
   repeat refine zX rfl ?_
   exact aj ⟨⟨rfl,rfl,rfl,rfl,rfl,rfl,rfl,trivial⟩,rfl⟩
  case true=>
   rw [e1,Bool.true_and] at hb90;refine zC rfl (e1) ?_
   repeat refine zX rfl ?_
   refine zI rfl (rfl) (hlt) ?_;refine zL rfl (hR.cellI (i:=1) rfl hnl') ?_;refine zC rfl (hb90) ?_
   repeat refine zX rfl ?_
   exact aj ⟨⟨rfl,rfl,rfl,rfl,rfl,rfl,rfl,trivial⟩,rfl⟩
 subst hw;have hin : ∀ (x : Int),(nx.set i x)[i]'(by simpa using hinx) = x:=fun x=>by simp
 refine cut (F:=fun a' w'=>∃ (vf : Value) (nx fs : List Int),St Tryz.f51.ntmps a' [(1,Vp M),(4,Vs O next.length cO),(6,Vi count),(7,Vs X next.length next.length),(8,vf),(9,Vi i)] ∧ RowKit.Below wc.heap.size wc w' ∧ Rows wc.heap.size w' [oI vf fs,oI (Vs X next.length next.length) nx,oI (Vs O next.length cO) out] ∧ PassI L.toNat next out (i + 1) nx fs ∧ (∀ x ∈ nx,-1 ≤ x ∧ x ≤ next.length)) ?_ ?_
 ·have hset : ∀ y : Int,-1 ≤ y → y ≤ next.length → ∀ x ∈ nx.set i y,-1 ≤ x ∧ x ≤ next.length:=fun y h1 h2 x hx=>by
   rcases List.mem_or_eq_of_mem_set hx with h | h
   ·exact hnr x h
   ·rw [h]; exact ⟨h1,h2⟩
  refine cond hS rfl (fun hT=>?_) (fun hF=>?_)
  ·rw [hT,Bool.and_eq_true,decide_eq_true_eq,decide_eq_true_eq] at hb90
   rcases hcase with ⟨h0,e⟩ | ⟨h0,k,hk,ha,e⟩ | ⟨h0,e,ha⟩
   ·omega
   ·exfalso
    subst e;rw [hin] at hb90;omega
   subst e;refine wp_seq (ai [(1,Vp M),(4,Vs O next.length cO),(6,Vi count),(7,Vs X next.length next.length),(8,.slice av fs.length cv),(9,Vi i)] (· = w9.setCell ⟨X,0 + i,none⟩ (Vi (fs.length : Nat))) af hS ?_ (fun a w10 hS hw=>?_))
   ·repeat refine zX rfl ?_
    refine zI rfl (rfl) (hlt) ?_;refine zS rfl rfl (hR.cellI (i:=1) rfl hnl') (hR.freeI (i:=1) rfl i) ?_;exact aj ⟨⟨rfl,rfl,rfl,rfl,rfl,rfl,trivial⟩,rfl⟩
   obtain ⟨hR10,hg10⟩:=hR.storeI (i:=1) rfl i (fs.length : Nat);have hK10:=a6 hK hg10 (fun q hq=>by cases hq; exact (hR.lt (i:=1) rfl rfl).1);rw [← hw] at hR10 hK10;dsimp only [List.set_cons_zero,List.set_cons_succ] at hR10;rw [List.set_set] at hR10;clear hw hg10 hR hK;refine bg (α:=Value) (fun v=>[(1,Vp M),(4,Vs O next.length cO),(6,Vi count),(7,Vs X next.length next.length),(8,v),(9,Vi i)]) (fun v w'=>RowKit.Below wc.heap.size wc w' ∧ Rows wc.heap.size w' [oI v (fs ++ [(i : Int)]),oI (Vs X next.length next.length) (nx.set i (fs.length : Nat)),oI (Vs O next.length cO) out]) af hS ?_ (fun v a w13 hS h13=>⟨v,_,_,hS,h13.1,h13.2,hP.new hlt (by rw [hoi]; exact h0) ha,hset _ (by omega) (by omega)⟩)
   repeat refine zX rfl ?_
   refine b8 rfl rfl rfl ?_;refine exI [(0,Vi ((i : Int)))] (exI #[Vi ((i : Int))] (anI (anI rfl rfl) (anI (by decide) (anI (jv _ _ _) ?_))));have hy1:=ao w10 (.cells #[Vi i] 3);have hR11:=hR10.alloc (.cells #[Vi i] 3)
   have ask : AppAsk (w10.alloc (.cells #[Vi i] 3)) ⟨3,.int .i64,1,8,Vi 0⟩ (.slice av fs.length cv) fs.length (ints fs) (Vs w10.heap.size 1 1) 1 [Vi i] wc.heap.size:=
    ⟨hR11.1 0 _ rfl,.inr ⟨_,0,_,rfl,ax rfl,trivial⟩,rfl,(by simp [Value.oneCell']),(by omega),(by show (fs.length + 1) * 8 ≤ _; omega),Nat.le_trans hK10.size hy1.size⟩
   refine b8 rfl rfl rfl ?_;refine exI _ (exI _ (exI _ (exI _ (exI _ (anI (ask) (anI (fun _ h=>h.symm) (anI (by decide) ?_)))))));rintro v' w13 hown hgr - hat;have hR13:=hR11.appI (i:=0) rfl hown hgr hat;dsimp only [List.set_cons_zero] at hR13;have e4:=a6 (ak hK10 hy1) hgr (fun q hq=>(hR11.lt (i:=0) rfl hq).1)
   repeat refine zX rfl ?_
   exact aj ⟨v',⟨rfl,rfl,rfl,rfl,rfl,rfl,trivial⟩,e4,hR13⟩
  ·refine wp_skip ⟨_,nx',fs,hS.sub ⟨rfl,rfl,rfl,rfl,rfl,rfl,trivial⟩,hK,hR,?_⟩;rw [hF,Bool.and_eq_false_iff,decide_eq_false_iff_not,decide_eq_false_iff_not] at hb90
   rcases hcase with ⟨h0,e⟩ | ⟨h0,k,hk,ha,e⟩ | ⟨h0,e,ha⟩
   ·subst e;exact ⟨hP.dead hlt (by rw [hoi]; exact h0),hset _ (by omega) (by omega)⟩
   ·subst e;exact ⟨hP.like hlt (by rw [hoi]; exact h0) hk ha,hset _ (by omega) (by omega)⟩
   ·exfalso
    subst e;rw [hin] at hb90;omega
 rintro a w10 ⟨vf,nx2,fs2,hS,hK',hR',hP',hnr'⟩;refine ay ?_;refine b4 ?_;refine ai [(1,Vp M),(4,Vs O next.length cO),(6,Vi count),(7,Vs X next.length next.length),(8,vf),(9,Vi (i + 1 : Nat))] (· = w10) af hS ?_ (fun a w11 hS hw=>?_)
 ·repeat refine zX rfl ?_
  refine zN rfl (ck (by omega)) ?_
  repeat refine zX rfl ?_
  exact aj ⟨⟨rfl,rfl,rfl,rfl,rfl,rfl,trivial⟩,rfl⟩
 subst hw;exact ⟨next.length - (i + 1),_,by omega,⟨i + 1,vf,nx2,fs2,hlt,rfl,rfl,hK',hR',hP',hnr'⟩,hS⟩
end
section
open Go Sym
theorem fg (w : World) (base e m : Nat) (z : Value) (hb : base ≤ w.heap.size) (hm : m ≤ 9223372036854775807) : (w.alloc (.cells (madeCells #[z] m) e)).ownsRow base e 1 (Vs w.heap.size m m) m (List.replicate m z):=by
 have h:=World.ownsRow_lit (base:=base) (e:=e) (size:=1) w (madeCells #[z] m) m hb (by unfold maxLen; exact hm) (by simp [madeCells]);rw [toList_madeCells_one] at h;exact h
structure R9 (base : Nat) (w : World) (P Q K m : Nat) (L s' : Int) : Prop where
 p : w.ownsRow base 34 1 (Vs P m m) m (List.replicate m (.slice none 0 0))
 q : w.ownsRow base 4 1 (Vs Q m m) m (List.replicate m (.bool false))
 k : OwnB w K 25 [Vi L,Vi s',Vs P m m,Vs Q m m]
 b : base ≤ K
theorem R9.fin {base : Nat} {w0 w : World} {P Q K m : Nat} {L s' : Int} (hb : RowKit.Below w0.heap.size w0 w) (hK : w0.heap.size ≤ K) (hbK : base ≤ K) (p : w.ownsRow base 34 1 (Vs P m m) m (List.replicate m (.slice none 0 0)))
  (q : w.ownsRow base 4 1 (Vs Q m m) m (List.replicate m (.bool false))) (k : OwnB w K 25 [Vi 0,Vi 0,.slice none 0 0,.slice none 0 0]) :
  RowKit.Below w0.heap.size w0 (w.setCells K 0 [Vi L,Vi s',Vs P m m,Vs Q m m]) ∧ R9 base (w.setCells K 0 [Vi L,Vi s',Vs P m m,Vs Q m m]) P Q K m L s':=by
 have hg:=bz K [Vi L,Vi s',Vs P m m,Vs Q m m] 0 w;refine ⟨a6 hb hg (fun x hx=>by cases hx; exact hK),⟨p.kept hg (.inr fun e=>gz p k (by decide) e.symm),q.kept hg (.inr fun e=>gz q k (by decide) e.symm),k.sets rfl,hbK⟩⟩
set_option maxHeartbeats 2000000 in
theorem ae6 {base : Nat} {w : World} {M N O cO m : Nat} {L : Int} {s : Nat} {vn ve : Value} {cls : List Int} (hx : Box w M L s vn ve) (hO : w.ownsRow base 3 1 (Vs O cls.length cO) cls.length (ints cls)) (hs : s < cls.length) (hb : base ≤ w.heap.size) (hm : m ≤ 100000000)
  {Q : Exit → Act → World → Prop} {a : Act} {ops : Array Oper} {id : Nat} (hops : Sym.da Tryz.f18.body 9 = some (id,ops))
  (hS : St Tryz.f18.ntmps a [(1,Vp M),(2,Vp N),(3,Vs O cls.length cO),(4,Vi m)])
  (hq : ∀ (x : Nat × Nat × Nat) (a' : Act) (w' : World),St Tryz.f18.ntmps a' [(1,Vp M),(2,Vp N),(3,Vs O cls.length cO),(6,Vp x.2.2)] → RowKit.Below w.heap.size w w' ∧ R9 base w' x.1 x.2.1 x.2.2 m L cls[s] → Q .normal a' w') : (Code.region id ops true).wp Tryz.prog Q a w:=by
 cases hops
 refine ep (α:=Nat × Nat × Nat) 14 (fun x=>[(1,Vp M),(2,Vp N),(3,Vs O cls.length cO),(6,Vp x.2.2)]) (fun x w'=>RowKit.Below w.heap.size w w' ∧ R9 base w' x.1 x.2.1 x.2.2 m L cls[s]) dc hS ?_ hq;have hy : RowKit.Below w.drew.heap.size w.drew w.drew:=RowKit.Below.refl _ _;have hb' : base ≤ w.drew.heap.size:=hb
 have hc : w.cell? ⟨O,0 + s,none⟩ = some (Vi cls[s]):=by
  rw [Nat.zero_add,World.ownsRow.cellAt hO s (by omega)];simp [hs]
 refine yT 0 af rfl (by kernel_rfl) hy rfl (rfl) ?_;refine yL 1 af rfl (by kernel_rfl) hy rfl rfl (hx.c0) ?_;refine yT 2 af rfl (by kernel_rfl) hy rfl (rfl) ?_;refine yT 3 af rfl (by kernel_rfl) hy rfl (rfl) ?_;refine yL 4 af rfl (by kernel_rfl) hy rfl rfl (hx.c1) ?_;refine yT 5 af rfl (by kernel_rfl) hy rfl (exI _ (anI (rfl) (anI (hs) rfl))) ?_;refine yL 6 af rfl (by kernel_rfl) hy rfl rfl (hc) ?_;refine yT 7 af rfl (by kernel_rfl) hy rfl (rfl) ?_;refine yT 9 af rfl (by kernel_rfl) hy rfl (rfl) ?_;refine y_three 8 10 12 (by kernel_rfl) (y_op 8 af rfl rfl rfl rfl ?_) (y_op 10 af rfl rfl rfl rfl ?_) (y_op 12 af rfl rfl rfl rfl ?_)
 ·
  refine exI m (exI m (anI rfl (anI rfl (anI (Nat.le_refl _) (anI rfl (anI rfl (anI (by show 24 * _ ≤ _; omega) (anI (by omega) ?_))))))));have hy1:=hy.alloc (Nat.le_refl _) (.cells (madeCells #[.slice none 0 0] m) 34);refine anI (.inr hy1) ?_;have ownP:=fg (w.drew) base 34 m (.slice none 0 0) hb' (by omega);refine v7 10 12 (by kernel_rfl) (y_op 10 af rfl rfl rfl rfl ?_) (y_op 12 af rfl rfl rfl rfl ?_)
  ·
   refine exI m (exI m (anI rfl (anI rfl (anI (Nat.le_refl _) (anI rfl (anI rfl (anI (by show 1 * _ ≤ _; omega) (anI (by omega) ?_))))))));have hy2:=hy1.alloc (hy1.size) (.cells (madeCells #[.bool false] m) 4);refine anI (.inr hy2) ?_;replace ownP:=ownP.alloc (.cells (madeCells #[.bool false] m) 4);have ownQ:=fg ((w.drew).alloc (.cells (madeCells #[.slice none 0 0] m) 34)) base 4 m (.bool false) (Nat.le_trans hb' hy1.size) (by omega);refine yT 11 af rfl (by kernel_rfl) hy2 rfl (rfl) ?_;refine bo 12 (by kernel_rfl) (y_op 12 af rfl rfl rfl rfl ?_);have hy3:=hy2.alloc (hy2.size) (.cells #[Vi 0,Vi 0,.slice none 0 0,.slice none 0 0] 25);refine anI (.inr hy3) ?_;replace ownP:=ownP.alloc (.cells #[Vi 0,Vi 0,.slice none 0 0,.slice none 0 0] 25);replace ownQ:=ownQ.alloc (.cells #[Vi 0,Vi 0,.slice none 0 0,.slice none 0 0] 25);have ownK:=OwnB.new (((w.drew).alloc (.cells (madeCells #[.slice none 0 0] m) 34)).alloc (.cells (madeCells #[.bool false] m) 4)) [Vi 0,Vi 0,.slice none 0 0,.slice none 0 0] 25;refine bo 13 (by kernel_rfl) (ew 13 af rfl rfl rfl ?_);have fin:=R9.fin (w0:=w) (L:=L) (s':=cls[s]) (fe hy3) (hy2.size) (Nat.le_trans hb' hy2.size) ownP ownQ ownK;refine anI rfl (anI rfl (anI (b0 ownK) (anI (.inr (a6 hy3 (bz _ _ 0 _) (fun k hk=>by cases hk; exact hy2.size))) ?_)));exact fc (_,_,_) (by kernel_rfl) ⟨rfl,rfl,rfl,rfl,trivial⟩ fin
  ·
   have hy2:=hy1.alloc (hy1.size) (.cells #[Vi 0,Vi 0,.slice none 0 0,.slice none 0 0] 25);refine anI (.inr hy2) ?_;replace ownP:=ownP.alloc (.cells #[Vi 0,Vi 0,.slice none 0 0,.slice none 0 0] 25);have ownK:=OwnB.new ((w.drew).alloc (.cells (madeCells #[.slice none 0 0] m) 34)) [Vi 0,Vi 0,.slice none 0 0,.slice none 0 0] 25;refine bo 10 (by kernel_rfl) (y_op 10 af rfl rfl rfl rfl ?_);refine exI m (exI m (anI rfl (anI rfl (anI (Nat.le_refl _) (anI rfl (anI rfl (anI (by show 1 * _ ≤ _; omega) (anI (by omega) ?_))))))));have hy3:=hy2.alloc (hy2.size) (.cells (madeCells #[.bool false] m) 4);refine anI (.inr hy3) ?_;replace ownP:=ownP.alloc (.cells (madeCells #[.bool false] m) 4);replace ownK : OwnB _ _ _ _:=ownK.kept (row:=none) (ee _ (.cells (madeCells #[.bool false] m) 4)) (by simp);have ownQ:=fg (((w.drew).alloc (.cells (madeCells #[.slice none 0 0] m) 34)).alloc (.cells #[Vi 0,Vi 0,.slice none 0 0,.slice none 0 0] 25)) base 4 m (.bool false) (Nat.le_trans hb' hy2.size) (by omega);refine yT 11 af rfl (by kernel_rfl) hy3 rfl (rfl) ?_;refine bo 13 (by kernel_rfl) (ew 13 af rfl rfl rfl ?_);have fin:=R9.fin (w0:=w) (L:=L) (s':=cls[s]) (fe hy3) (hy1.size) (Nat.le_trans hb' hy1.size) ownP ownQ ownK;refine anI rfl (anI rfl (anI (b0 ownK) (anI (.inr (a6 hy3 (bz _ _ 0 _) (fun k hk=>by cases hk; exact hy1.size))) ?_)));exact fc (_,_,_) (by kernel_rfl) ⟨rfl,rfl,rfl,rfl,trivial⟩ fin
 ·
  refine exI m (exI m (anI rfl (anI rfl (anI (Nat.le_refl _) (anI rfl (anI rfl (anI (by show 1 * _ ≤ _; omega) (anI (by omega) ?_))))))));have hy1:=hy.alloc (Nat.le_refl _) (.cells (madeCells #[.bool false] m) 4);refine anI (.inr hy1) ?_;have ownQ:=fg (w.drew) base 4 m (.bool false) hb' (by omega);refine v7 8 12 (by kernel_rfl) (y_op 8 af rfl rfl rfl rfl ?_) (y_op 12 af rfl rfl rfl rfl ?_)
  ·
   refine exI m (exI m (anI rfl (anI rfl (anI (Nat.le_refl _) (anI rfl (anI rfl (anI (by show 24 * _ ≤ _; omega) (anI (by omega) ?_))))))));have hy2:=hy1.alloc (hy1.size) (.cells (madeCells #[.slice none 0 0] m) 34);refine anI (.inr hy2) ?_;replace ownQ:=ownQ.alloc (.cells (madeCells #[.slice none 0 0] m) 34);have ownP:=fg ((w.drew).alloc (.cells (madeCells #[.bool false] m) 4)) base 34 m (.slice none 0 0) (Nat.le_trans hb' hy1.size) (by omega);refine yT 11 af rfl (by kernel_rfl) hy2 rfl (rfl) ?_;refine bo 12 (by kernel_rfl) (y_op 12 af rfl rfl rfl rfl ?_);have hy3:=hy2.alloc (hy2.size) (.cells #[Vi 0,Vi 0,.slice none 0 0,.slice none 0 0] 25);refine anI (.inr hy3) ?_;replace ownQ:=ownQ.alloc (.cells #[Vi 0,Vi 0,.slice none 0 0,.slice none 0 0] 25);replace ownP:=ownP.alloc (.cells #[Vi 0,Vi 0,.slice none 0 0,.slice none 0 0] 25);have ownK:=OwnB.new (((w.drew).alloc (.cells (madeCells #[.bool false] m) 4)).alloc (.cells (madeCells #[.slice none 0 0] m) 34)) [Vi 0,Vi 0,.slice none 0 0,.slice none 0 0] 25;refine bo 13 (by kernel_rfl) (ew 13 af rfl rfl rfl ?_);have fin:=R9.fin (w0:=w) (L:=L) (s':=cls[s]) (fe hy3) (hy2.size) (Nat.le_trans hb' hy2.size) ownP ownQ ownK;refine anI rfl (anI rfl (anI (b0 ownK) (anI (.inr (a6 hy3 (bz _ _ 0 _) (fun k hk=>by cases hk; exact hy2.size))) ?_)));exact fc (_,_,_) (by kernel_rfl) ⟨rfl,rfl,rfl,rfl,trivial⟩ fin
  ·
   have hy2:=hy1.alloc (hy1.size) (.cells #[Vi 0,Vi 0,.slice none 0 0,.slice none 0 0] 25);refine anI (.inr hy2) ?_;replace ownQ:=ownQ.alloc (.cells #[Vi 0,Vi 0,.slice none 0 0,.slice none 0 0] 25);have ownK:=OwnB.new ((w.drew).alloc (.cells (madeCells #[.bool false] m) 4)) [Vi 0,Vi 0,.slice none 0 0,.slice none 0 0] 25;refine bo 8 (by kernel_rfl) (y_op 8 af rfl rfl rfl rfl ?_);refine exI m (exI m (anI rfl (anI rfl (anI (Nat.le_refl _) (anI rfl (anI rfl (anI (by show 24 * _ ≤ _; omega) (anI (by omega) ?_))))))));have hy3:=hy2.alloc (hy2.size) (.cells (madeCells #[.slice none 0 0] m) 34);refine anI (.inr hy3) ?_;replace ownQ:=ownQ.alloc (.cells (madeCells #[.slice none 0 0] m) 34);replace ownK : OwnB _ _ _ _:=ownK.kept (row:=none) (ee _ (.cells (madeCells #[.slice none 0 0] m) 34)) (by simp);have ownP:=fg (((w.drew).alloc (.cells (madeCells #[.bool false] m) 4)).alloc (.cells #[Vi 0,Vi 0,.slice none 0 0,.slice none 0 0] 25)) base 34 m (.slice none 0 0) (Nat.le_trans hb' hy2.size) (by omega);refine yT 11 af rfl (by kernel_rfl) hy3 rfl (rfl) ?_;refine bo 13 (by kernel_rfl) (ew 13 af rfl rfl rfl ?_);have fin:=R9.fin (w0:=w) (L:=L) (s':=cls[s]) (fe hy3) (hy1.size) (Nat.le_trans hb' hy1.size) ownP ownQ ownK;refine anI rfl (anI rfl (anI (b0 ownK) (anI (.inr (a6 hy3 (bz _ _ 0 _) (fun k hk=>by cases hk; exact hy1.size))) ?_)));exact fc (_,_,_) (by kernel_rfl) ⟨rfl,rfl,rfl,rfl,trivial⟩ fin
 ·
  have hy1:=hy.alloc (Nat.le_refl _) (.cells #[Vi 0,Vi 0,.slice none 0 0,.slice none 0 0] 25);refine anI (.inr hy1) ?_;have ownK:=OwnB.new (w.drew) [Vi 0,Vi 0,.slice none 0 0,.slice none 0 0] 25;refine v7 8 10 (by kernel_rfl) (y_op 8 af rfl rfl rfl rfl ?_) (y_op 10 af rfl rfl rfl rfl ?_)
  ·
   refine exI m (exI m (anI rfl (anI rfl (anI (Nat.le_refl _) (anI rfl (anI rfl (anI (by show 24 * _ ≤ _; omega) (anI (by omega) ?_))))))));have hy2:=hy1.alloc (hy1.size) (.cells (madeCells #[.slice none 0 0] m) 34);refine anI (.inr hy2) ?_;replace ownK : OwnB _ _ _ _:=ownK.kept (row:=none) (ee _ (.cells (madeCells #[.slice none 0 0] m) 34)) (by simp);have ownP:=fg ((w.drew).alloc (.cells #[Vi 0,Vi 0,.slice none 0 0,.slice none 0 0] 25)) base 34 m (.slice none 0 0) (Nat.le_trans hb' hy1.size) (by omega);refine bo 10 (by kernel_rfl) (y_op 10 af rfl rfl rfl rfl ?_);refine exI m (exI m (anI rfl (anI rfl (anI (Nat.le_refl _) (anI rfl (anI rfl (anI (by show 1 * _ ≤ _; omega) (anI (by omega) ?_))))))));have hy3:=hy2.alloc (hy2.size) (.cells (madeCells #[.bool false] m) 4);refine anI (.inr hy3) ?_;replace ownK : OwnB _ _ _ _:=ownK.kept (row:=none) (ee _ (.cells (madeCells #[.bool false] m) 4)) (by simp);replace ownP:=ownP.alloc (.cells (madeCells #[.bool false] m) 4);have ownQ:=fg (((w.drew).alloc (.cells #[Vi 0,Vi 0,.slice none 0 0,.slice none 0 0] 25)).alloc (.cells (madeCells #[.slice none 0 0] m) 34)) base 4 m (.bool false) (Nat.le_trans hb' hy2.size) (by omega);refine yT 11 af rfl (by kernel_rfl) hy3 rfl (rfl) ?_;refine bo 13 (by kernel_rfl) (ew 13 af rfl rfl rfl ?_);have fin:=R9.fin (w0:=w) (L:=L) (s':=cls[s]) (fe hy3) (Nat.le_refl _) (hb') ownP ownQ ownK;refine anI rfl (anI rfl (anI (b0 ownK) (anI (.inr (a6 hy3 (bz _ _ 0 _) (fun k hk=>by cases hk; exact Nat.le_refl _))) ?_)));exact fc (_,_,_) (by kernel_rfl) ⟨rfl,rfl,rfl,rfl,trivial⟩ fin
  ·
   refine exI m (exI m (anI rfl (anI rfl (anI (Nat.le_refl _) (anI rfl (anI rfl (anI (by show 1 * _ ≤ _; omega) (anI (by omega) ?_))))))));have hy2:=hy1.alloc (hy1.size) (.cells (madeCells #[.bool false] m) 4);refine anI (.inr hy2) ?_;replace ownK : OwnB _ _ _ _:=ownK.kept (row:=none) (ee _ (.cells (madeCells #[.bool false] m) 4)) (by simp);have ownQ:=fg ((w.drew).alloc (.cells #[Vi 0,Vi 0,.slice none 0 0,.slice none 0 0] 25)) base 4 m (.bool false) (Nat.le_trans hb' hy1.size) (by omega);refine bo 8 (by kernel_rfl) (y_op 8 af rfl rfl rfl rfl ?_);refine exI m (exI m (anI rfl (anI rfl (anI (Nat.le_refl _) (anI rfl (anI rfl (anI (by show 24 * _ ≤ _; omega) (anI (by omega) ?_))))))));have hy3:=hy2.alloc (hy2.size) (.cells (madeCells #[.slice none 0 0] m) 34);refine anI (.inr hy3) ?_;replace ownK : OwnB _ _ _ _:=ownK.kept (row:=none) (ee _ (.cells (madeCells #[.slice none 0 0] m) 34)) (by simp);replace ownQ:=ownQ.alloc (.cells (madeCells #[.slice none 0 0] m) 34);have ownP:=fg (((w.drew).alloc (.cells #[Vi 0,Vi 0,.slice none 0 0,.slice none 0 0] 25)).alloc (.cells (madeCells #[.bool false] m) 4)) base 34 m (.slice none 0 0) (Nat.le_trans hb' hy2.size) (by omega);refine yT 11 af rfl (by kernel_rfl) hy3 rfl (rfl) ?_;refine bo 13 (by kernel_rfl) (ew 13 af rfl rfl rfl ?_);have fin:=R9.fin (w0:=w) (L:=L) (s':=cls[s]) (fe hy3) (Nat.le_refl _) (hb') ownP ownQ ownK;refine anI rfl (anI rfl (anI (b0 ownK) (anI (.inr (a6 hy3 (bz _ _ 0 _) (fun k hk=>by cases hk; exact Nat.le_refl _))) ?_)));exact fc (_,_,_) (by kernel_rfl) ⟨rfl,rfl,rfl,rfl,trivial⟩ fin
end
section
open Go Sym
structure ShI (base : Nat) (w : World) (P Q m : Nat) (cls : List Int) (next : List (List Int)) (fin : List Bool) (L i : Nat) (vs : List Value) (sn : List (List Int)) (sf : List Bool) : Prop where
 p : w.ownsRow base 34 1 (Vs P m m) m vs
 q : w.ownsRow base 4 1 (Vs Q m m) m (ip sf)
 lv : vs.length = m
 ln : sn.length = m
 lf : sf.length = m
 done : ∀ v : Nat,v < m → (∃ j,j < i ∧ cls.getD j 0 = (v : Int)) → (∃ j : Nat,j < i ∧ cls.getD j 0 = (v : Int) ∧ sn.getD v [] = (List.range L).map (fun c=>dr cls (tgtM next j c)) ∧ sf.getD v false = fin.getD j false) ∧
  (∃ g c,vs[v]? = some (Vs g L c) ∧ w.ownsRow base 3 1 (Vs g L c) L (ints (sn.getD v [])))
 todo : ∀ v : Nat,v < m → (∀ j,j < i → cls.getD j 0 ≠ (v : Int)) → vs[v]? = some (.slice none 0 0)
section
variable {base : Nat} {w w' : World} {P Q m : Nat} {cls : List Int} {next : List (List Int)} {fin : List Bool} {L i : Nat} {vs : List Value} {sn : List (List Int)} {sf : List Bool}
theorem ShI.kept (h : ShI base w P Q m cls next fin L i vs sn sf) (hg : w.grownBy w' none) : ShI base w' P Q m cls next fin L i vs sn sf:=
 ⟨h.p.kept hg (fw _),h.q.kept hg (fw _),h.lv,h.ln,h.lf,fun v hv ha=>by
  obtain ⟨h1,g,c,h2,h3⟩:=h.done v hv ha;exact ⟨h1,g,c,h2,h3.kept hg (fw _)⟩,h.todo⟩
theorem ShI.skip (h : ShI base w P Q m cls next fin L i vs sn sf) (hs : cls.getD i 0 < 0 ∨ ∃ v : Nat,v < m ∧ cls.getD i 0 = (v : Int) ∧ ∃ j,j < i ∧ cls.getD j 0 = (v : Int)) : ShI base w P Q m cls next fin L (i + 1) vs sn sf:=by
 refine ⟨h.p,h.q,h.lv,h.ln,h.lf,fun v hv ha=>?_,fun v hv ha=>h.todo v hv fun j hj=>ha j (by omega)⟩
 have ha' : ∃ j,j < i ∧ cls.getD j 0 = (v : Int):=by
  obtain ⟨j,hj,e⟩:=ha
  rcases Nat.lt_or_ge j i with h1 | h1
  ·exact ⟨j,h1,e⟩
  ·obtain rfl : j = i:=by omega
   rcases hs with h2 | ⟨v',_,e2,j',hj',e3⟩
   ·omega
   ·obtain rfl : v' = v:=by omega
    exact ⟨j',hj',e3⟩
 obtain ⟨⟨j,h1,h2,h3,h4⟩,h5⟩:=h.done v hv ha';exact ⟨⟨j,by omega,h2,h3,h4⟩,h5⟩
theorem ShI.put (h : ShI base w P Q m cls next fin L i vs sn sf) {c g cg : Nat} (hc : c < m) (hci : cls.getD i 0 = (c : Int)) {row : List Int} (hrow : row = (List.range L).map (fun k=>dr cls (tgtM next i k)))
  (hown : w.ownsRow base 3 1 (Vs g L cg) L (ints row)) (hnew : ∀ j,j < i → cls.getD j 0 ≠ (c : Int)) :
  ShI base ((w.setCell ⟨P,0 + c,none⟩ (Vs g L cg)).drew.setCell ⟨Q,0 + c,none⟩ (.bool (fin.getD i false))) P Q m cls next fin L (i + 1) (vs.set c (Vs g L cg)) (sn.set c row) (sf.set c (fin.getD i false)):=by
 rw [Nat.zero_add];obtain ⟨p1,gp⟩:=World.ownsRow.stored h.p c (Vs g L cg);have hd : (w.setCell ⟨P,c,none⟩ (Vs g L cg)).grownBy (w.setCell ⟨P,c,none⟩ (Vs g L cg)).drew none:=⟨rfl,rfl,rfl,Nat.le_refl _,fun _ _ _=>rfl⟩;have q1:=(h.q.kept gp (jp h.p h.q (by decide))).kept hd (fw _);obtain ⟨q2,gq⟩:=World.ownsRow.stored q1 c (.bool (fin.getD i false));have p2:=(p1.kept hd (fw _)).kept gq (jp q1 (p1.kept hd (fw _)) (by decide))
 have keepI : ∀ {v : Value} {n : Nat} {xs : List Value},w.ownsRow base 3 1 v n xs → ((w.setCell ⟨P,c,none⟩ (Vs g L cg)).drew.setCell ⟨Q,c,none⟩ (.bool (fin.getD i false))).ownsRow base 3 1 v n xs:=fun hv=>
  ((hv.kept gp (jp h.p hv (by decide))).kept hd (fw _)).kept gq (jp q1 ((hv.kept gp (jp h.p hv (by decide))).kept hd (fw _)) (by decide))
 have ex : ∀ {v : Nat},v ≠ c → (vs.set c (Vs g L cg))[v]? = vs[v]?:=fun hv=>List.getElem?_set_ne (fun e=>hv e.symm);refine ⟨p2,?_,by simp [h.lv],by simp [h.ln],by simp [h.lf],fun v hv ha=>?_,fun v hv ha=>?_⟩
 ·rw [show ip (sf.set c (fin.getD i false)) = (ip sf).set c (.bool (fin.getD i false)) from List.map_set ..]; exact q2
 ·by_cases e : v = c
  ·subst e;refine ⟨⟨i,Nat.lt_succ_self _,hci,?_,?_⟩,g,cg,?_,?_⟩
   ·rw [← hrow]; simp [List.getD_eq_getElem?_getD,h.ln,hc]
   ·rw [g6,if_pos ⟨rfl,by rw [h.lf]; exact hc⟩]
   ·simp [h.lv,hc]
   ·have : (sn.set v row).getD v [] = row:=by simp [List.getD_eq_getElem?_getD,h.ln,hc]
    rw [this]; exact keepI hown
  ·have ha' : ∃ j,j < i ∧ cls.getD j 0 = (v : Int):=by
    obtain ⟨j,hj,ej⟩:=ha
    rcases Nat.lt_or_ge j i with h1 | h1
    ·exact ⟨j,h1,ej⟩
    ·obtain rfl : j = i:=by omega
     omega
   obtain ⟨⟨j,h1,h2,h3,h4⟩,g',c',h5,h6⟩:=h.done v hv ha';have hsn : (sn.set c row).getD v [] = sn.getD v []:=by simp [List.getD_eq_getElem?_getD,List.getElem?_set_ne (fun e2=>e e2.symm)]
   refine ⟨⟨j,by omega,h2,by rw [hsn]; exact h3,?_⟩,g',c',by rw [ex e]; exact h5,by rw [hsn]; exact keepI h6⟩;rw [g6,if_neg (fun hh=>e hh.1.symm)]; exact h4
 ·have e : v ≠ c:=fun e=>ha i (Nat.lt_succ_self _) (by rw [e]; exact hci);rw [ex e];exact h.todo v hv fun j hj=>ha j (by omega)
end
theorem ShI.end {base : Nat} {w : World} {P Q m : Nat} {cls : List Int} {next : List (List Int)} {fin : List Bool} {L : Nat} {vs : List Value} {sn : List (List Int)} {sf : List Bool} (h : ShI base w P Q m cls next fin L next.length vs sn sf) (hc : Cls L next fin cls m) :
  sn.length = m ∧ SmallI L next fin cls sn sf:=by
 refine ⟨h.ln,⟨by rw [h.lf,h.ln],fun v hv=>?_⟩⟩;have hv' : v < m:=by rw [← h.ln]; exact hv
 obtain ⟨i,h1,h2⟩:=hc.hit v hv';obtain ⟨⟨j,a,b,c,d⟩,_⟩:=h.done v hv' ⟨i,h1,h2⟩;refine ⟨j,a,b,?_,d⟩;have : sn.getD v [] = sn[v]:=by simp [List.getD_eq_getElem?_getD,hv]
 rw [← this]; exact c
structure MaxI (cls : List Int) (i : Nat) (count : Int) : Prop where
 pos : 0 ≤ count
 up : ∀ j,j < i → cls.getD j 0 + 1 ≤ count
 at' : count = 0 ∨ ∃ j,j < i ∧ cls.getD j 0 + 1 = count
theorem MaxI.end {L : Nat} {next : List (List Int)} {fin : List Bool} {cls : List Int} {m : Nat} (hc : Cls L next fin cls m) {count : Int} (h : MaxI cls next.length count) : count = m:=by
 have h1 : count ≤ m:=by
  rcases h.at' with h0 | ⟨j,hj,e⟩
  ·omega
  ·have:=hc.top j hj; omega
 rcases Nat.eq_zero_or_pos m with h0 | h0
 ·have:=h.pos; omega
 ·obtain ⟨i,a,b⟩:=hc.hit (m - 1) (by omega)
  have:=h.up i a
  omega
theorem MaxI.step {cls : List Int} {i : Nat} {count x : Int} (h : MaxI cls i count) (hx : cls.getD i 0 = x) : MaxI cls (i + 1) (if x + 1 > count then x + 1 else count):=by
 have:=h.pos
 refine ⟨by split <;> omega,fun j hj=>?_,?_⟩
 ·rcases Nat.lt_or_ge j i with h1 | h1
  ·have:=h.up j h1
   split <;> omega
  ·obtain rfl : j = i:=by omega
   split <;> omega
 ·split
  ·exact .inr ⟨i,Nat.lt_succ_self _,by omega⟩
  ·rcases h.at' with h0 | ⟨j,hj,e⟩
   ·exact .inl h0
   ·exact .inr ⟨j,by omega,e⟩
end
section
open Go Sym
theorem fillB (a : Bool) (z : Value) : Instr.fill (fun i=>some (i * 1,1)) (madeCells #[z] 1) [(0,.bool a)] = some #[.bool a]:=by
 have h : (Value.bool a).cells = #[.bool a]:=rfl;simp [Instr.fill,madeCells,h,Array.range,Array.foldl];rfl
theorem CopyI.below {base : Nat} {w w' : World} {b3 : Nat} {L s : Int} {rows : List (List Int)} {fin : List Bool} (h : CopyI base w b3 L s rows fin) (hb : RowKit.Below w.heap.size w w') : CopyI base w' b3 L s rows fin:=by
 obtain ⟨vn,ve,us,ho,hve,hvn,hlu,hus⟩:=h.mem;have hg:=et hb
 exact ⟨h.b,vn,ve,us,ho.keep hb ho.lt,hve.kept hg (fw _),hvn.kept hg (fw _),hlu,fun i hi=>by
  obtain ⟨u,h1,h2,h3⟩:=hus i hi;exact ⟨u,h1,h2.kept hg (fw _),h3⟩⟩
theorem CopyI.add_row {base : Nat} {w w4 : World} {b3 : Nat} {L s : Int} {vn ve v' : Value} {us : List Value} {rows : List (List Int)} {fin : List Bool} {g : Option Addr} {n c : Nat} {row : List Int} (hb : base ≤ b3) (ho : OwnB w b3 25 [Vi L,Vi s,vn,ve])
  (hve : w.ownsRow base 4 1 ve fin.length (fin.map .bool)) (hvn : w.ownsRow base 34 1 vn rows.length us) (hlu : us.length = rows.length)
  (hus : ∀ i (h : i < rows.length),∃ u,us[i]? = some u ∧ w.ownsRow base 3 1 u rows[i].length (rows[i].map (Value.int .i64)) ∧ ∀ x ∈ rows[i],I64 x)
  (hrow : w.ownsRow base 3 1 (.slice g n c) row.length (row.map (Value.int .i64))) (hI : ∀ x ∈ row,I64 x)
  (hgr : (w.alloc (.cells #[.slice g n c] 34)).grownBy w4 vn.ownBlock) (h4 : w4.ownsRow base 34 1 v' (rows.length + 1) (us ++ [.slice g n c])) :
  OwnB w4 b3 25 [Vi L,Vi s,vn,ve] ∧ CopyI base (w4.setCell ⟨b3,2,none⟩ v') b3 L s (rows ++ [row]) fin:=by
 have hvn3:=hvn.alloc (.cells #[.slice g n c] 34);have hve3:=hve.alloc (.cells #[.slice g n c] 34);have hu3 : ∀ u q xs,w.ownsRow base 3 1 u q xs → w4.ownsRow base 3 1 u q xs:=fun u q xs h=>(h.alloc (.cells #[.slice g n c] 34)).kept hgr (jp hvn3 (h.alloc _) (by decide));have ho3 : OwnB (w.alloc (.cells #[.slice g n c] 34)) b3 25 [Vi L,Vi s,vn,ve]:=ho.kept (row:=none) (ee _ _) (by simp);have ho4:=ho3.kept hgr (gz hvn3 ho3 (by decide));have hve4:=hve3.kept hgr (jp hvn3 hve3 (by decide));have hg5:=jc w4 b3 2 v';have hnb : ∀ {e q : Nat} {v : Value} {xs : List Value},w4.ownsRow base e 1 v q xs → e ≠ 25 → v.ownBlock = none ∨ v.ownBlock ≠ some b3:=fun h he=>.inr (fun hh=>gz h ho4 he hh.symm);refine ⟨ho4,hb,v',ve,us ++ [.slice g n c],ho4.set 2 _,hve4.kept hg5 (hnb hve4 (by decide)),?_,?_,?_⟩
 ·have:=h4.kept hg5 (hnb h4 (by decide))
  simpa using this
 ·simp [hlu]
 ·intro i hi
  rcases Nat.lt_or_ge i rows.length with hlt | hge
  ·obtain ⟨u,hu1,hu2,hu3'⟩:=hus i hlt;refine ⟨u,?_,?_,?_⟩
   ·rw [List.getElem?_append_left (by omega)]; exact hu1
   ·have e1:=(hu3 _ _ _ hu2).kept hg5 (hnb (hu3 _ _ _ hu2) (by decide));rw [List.getElem_append_left hlt]; exact e1
   ·rw [List.getElem_append_left hlt]; exact hu3'
  ·obtain rfl : i = rows.length:=by simp at hi; omega
   refine ⟨.slice g n c,?_,?_,?_⟩
   ·rw [List.getElem?_append_right (by omega)]; simp [hlu]
   ·have e1:=(hu3 _ _ _ hrow).kept hg5 (hnb (hu3 _ _ _ hrow) (by decide))
    simpa using e1
   ·simpa using hI
theorem CopyI.add_fin {base : Nat} {w w4 : World} {b3 : Nat} {L s : Int} {vn ve v' : Value} {us : List Value} {rows : List (List Int)} {fin : List Bool} {x : Bool} (hb : base ≤ b3) (ho : OwnB w b3 25 [Vi L,Vi s,vn,ve])
  (hve : w.ownsRow base 4 1 ve fin.length (fin.map .bool)) (hvn : w.ownsRow base 34 1 vn rows.length us) (hlu : us.length = rows.length)
  (hus : ∀ i (h : i < rows.length),∃ u,us[i]? = some u ∧ w.ownsRow base 3 1 u rows[i].length (rows[i].map (Value.int .i64)) ∧ ∀ x ∈ rows[i],I64 x)
  (hgr : (w.alloc (.cells #[.bool x] 4)).grownBy w4 ve.ownBlock) (h4 : w4.ownsRow base 4 1 v' (fin.length + 1) (fin.map .bool ++ [.bool x])) :
  OwnB w4 b3 25 [Vi L,Vi s,vn,ve] ∧ CopyI base (w4.setCell ⟨b3,3,none⟩ v') b3 L s rows (fin ++ [x]):=by
 have hve3:=hve.alloc (.cells #[.bool x] 4);have hvn3:=hvn.alloc (.cells #[.bool x] 4);have hu3 : ∀ u q xs,w.ownsRow base 3 1 u q xs → w4.ownsRow base 3 1 u q xs:=fun u q xs h=>(h.alloc (.cells #[.bool x] 4)).kept hgr (jp hve3 (h.alloc _) (by decide));have ho3 : OwnB (w.alloc (.cells #[.bool x] 4)) b3 25 [Vi L,Vi s,vn,ve]:=ho.kept (row:=none) (ee _ _) (by simp);have ho4:=ho3.kept hgr (gz hve3 ho3 (by decide));have hvn4:=hvn3.kept hgr (jp hve3 hvn3 (by decide));have hg5:=jc w4 b3 3 v';have hnb : ∀ {e q : Nat} {v : Value} {xs : List Value},w4.ownsRow base e 1 v q xs → e ≠ 25 → v.ownBlock = none ∨ v.ownBlock ≠ some b3:=fun h he=>.inr (fun hh=>gz h ho4 he hh.symm);refine ⟨ho4,hb,vn,v',us,ho4.set 3 _,?_,hvn4.kept hg5 (hnb hvn4 (by decide)),hlu,fun i hi=>?_⟩
 ·have:=h4.kept hg5 (hnb h4 (by decide))
  simpa using this
 ·obtain ⟨u,h1,h2,h3⟩:=hus i hi;exact ⟨u,h1,(hu3 _ _ _ h2).kept hg5 (hnb (hu3 _ _ _ h2) (by decide)),h3⟩
set_option maxHeartbeats 1000000 in
theorem ac3 {base : Nat} {w0 w : World} {M N K b3 k nr m Q' : Nat} {L s' : Int} {vP va vb : Value} {rows : List Int} {sf : List Bool} {rs : List (List Int)} {fs : List Bool} (h0 : RowKit.Below w0.heap.size w0 w) (hb : base = w0.heap.size)
  (hk : OwnB w K 25 [Vi L,Vi s',vP,Vs Q' m m]) (hq' : w.ownsRow base 4 1 (Vs Q' m m) m (ip sf) ∨ ∀ j (h : j < sf.length),w.cell? ⟨Q',0 + j,none⟩ = some (.bool sf[j]))
  (hr : Sl w va rows PInt) (hrn : rows.length = nr) (hkr : k < rows.length) {r : Nat} (hrv : rows[k] = (r : Int)) (hrm : r < m) (hsf : sf.length = m) (hC : CopyI base w b3 L 0 rs fs) (hb3 : w0.heap.size ≤ b3) (hfs : fs.length ≤ 100000000)
  {Q : Exit → Act → World → Prop} {a : Act} {ops : Array Oper} {id : Nat} (hops : Sym.da Tryz.f18.body 38 = some (id,ops))
  (hS : St Tryz.f18.ntmps a [(1,Vp M),(2,Vp N),(6,Vp K),(11,va),(12,vb),(13,Vp b3),(14,Vi k)])
  (hq : ∀ a' w',St Tryz.f18.ntmps a' [(1,Vp M),(2,Vp N),(6,Vp K),(11,va),(12,vb),(13,Vp b3),(14,Vi k)] → RowKit.Below w0.heap.size w0 w' ∧ CopyI base w' b3 L 0 rs (fs ++ [sf.getD r false]) → Q .normal a' w') : (Code.region id ops true).wp Tryz.prog Q a w:=by
 cases hops
 refine d5 11 [(1,Vp M),(2,Vp N),(6,Vp K),(11,va),(12,vb),(13,Vp b3),(14,Vi k)] (fun w'=>RowKit.Below w0.heap.size w0 w' ∧ CopyI base w' b3 L 0 rs (fs ++ [sf.getD r false])) dc hS ?_ hq;have hy : RowKit.Below w.drew.heap.size w.drew w.drew:=RowKit.Below.refl _ _;have hbb : w0.heap.size ≤ base:=by omega
 replace hb : base ≤ w0.heap.size:=by omega
 obtain ⟨vn',ve',us,ho,hve,hvn,hlu,hus⟩:=hC.mem;have hbw : w0.heap.size ≤ w.heap.size:=h0.size;obtain ⟨ar,br,orr,cr,rfl,r1,r2,r3,r4⟩:=hr;obtain rfl:=r1 (by omega);obtain ⟨u,hu,rfl,-⟩:=r4 k hkr;rw [hrv] at hu;have hrs : r < sf.length:=by omega
 have hcq : w.cell? ⟨Q',0 + r,none⟩ = some (.bool sf[r]):=by
  rcases hq' with h | h
  ·rw [Nat.zero_add,World.ownsRow.cellAt h r (by omega)];simp [ip,hrs]
  ·exact h r hrs
 obtain ⟨ge,ne,ce,hve'⟩:=df hve;subst hve';refine yT 0 af rfl (by kernel_rfl) hy rfl (rfl) ?_;refine yL 1 af rfl (by kernel_rfl) hy rfl rfl (ho.cell (i:=3) rfl) ?_;refine yT 2 af rfl (by kernel_rfl) hy rfl (rfl) ?_;refine yL 3 af rfl (by kernel_rfl) hy rfl rfl (hk.cell (i:=3) rfl) ?_;refine yT 4 af rfl (by kernel_rfl) hy rfl (rfl) ?_;refine yT 5 af rfl (by kernel_rfl) hy rfl (rfl) ?_;refine yT 6 af rfl (by kernel_rfl) hy rfl (exI _ (anI (rfl) (anI (hkr) rfl))) ?_;refine yL 7 af rfl (by kernel_rfl) hy rfl rfl (hu) ?_;refine yT 8 af rfl (by kernel_rfl) hy rfl (exI _ (anI (rfl) (anI (hrm) rfl))) ?_;refine yL 9 af rfl (by kernel_rfl) hy rfl rfl (hcq) ?_;refine bo 10 (by kernel_rfl) (y_op 10 af rfl rfl rfl rfl ?_);refine exI [(0,.bool (sf[r]))] (exI #[.bool (sf[r])] (anI (anI rfl rfl) (anI (by decide) (anI (fillB _ _) ?_))));have hy3:=hy.alloc (Nat.le_refl _) (.cells #[.bool sf[r]] 4);refine anI (.inr hy3) ?_;have hve3:=hve.drew.alloc (.cells #[.bool sf[r]] 4)
 have ask : AppAsk (w.drew.alloc (.cells #[.bool sf[r]] 4)) ⟨4,.bool,1,1,.bool false⟩ (.slice ge ne ce) fs.length (fs.map .bool) (Vs w.drew.heap.size 1 1) 1 [.bool sf[r]] base:=
  ⟨hve3,.inr ⟨_,0,_,rfl,ax rfl,trivial⟩,rfl,(by simp [Value.oneCell']),(by omega),(by show (fs.length + 1) * 1 ≤ _; omega),Nat.le_trans (Nat.le_trans hb hbw) hy3.size⟩
 refine bo 11 (by kernel_rfl) (y_op 11 af rfl rfl rfl rfl ?_);refine exI _ (exI _ (exI _ (exI _ (exI _ (anI (ask) (anI (fun _ h=>h.symm) (anI (by decide) ?_)))))));rintro v' w4 hown4 hgr4 - -;refine anI (.inl (by kernel_rfl)) ?_;refine bo 12 (by kernel_rfl) (y_op 12 af rfl rfl rfl rfl ?_);refine anI (.inl (by kernel_rfl)) ?_;refine bo 13 (by kernel_rfl) (ew 13 af rfl rfl rfl ?_);obtain ⟨g4,n4,c4,hv4⟩:=df hown4;subst hv4;obtain ⟨ho4,hC4⟩:=CopyI.add_fin (w:=w.drew) hC.b ho hve.drew hvn.drew hlu (fun i hi=>by obtain ⟨u,h1,h2,h3⟩:=hus i hi; exact ⟨u,h1,h2.drew,h3⟩) hgr4 hown4;refine anI rfl (anI rfl (anI ⟨_,ho4.cell (i:=3) rfl⟩ (anI (ho4.free 3) (anI (.inl (by kernel_rfl)) ?_))));rw [show sf.getD r false = sf[r] from d9 hrs]
 refine iq (by kernel_rfl) ⟨rfl,rfl,rfl,rfl,rfl,rfl,rfl,trivial⟩ (show RowKit.Below w0.heap.size w0 (w4.setCell ⟨b3,3,none⟩ (.slice g4 n4 c4)) ∧ CopyI base (w4.setCell ⟨b3,3,none⟩ (.slice g4 n4 c4)) b3 L 0 rs (fs ++ [sf[r]]) from ⟨?_,hC4⟩)
 have e1 : RowKit.Below w0.heap.size w0 (w.drew.alloc (.cells #[.bool sf[r]] 4)):=ak h0 (fe hy3);have e2:=a6 e1 hgr4 (fun q hq=>Nat.le_trans hbb (hve3.lt q hq).1);exact a6 e2 (jc _ b3 3 _) (fun q hq=>by cases hq; exact hb3)
end
section
open Go Sym
theorem ad1 : bk Tryz.prog 51 = true:=by kernel_rfl
theorem en_none : bk Tryz.prog 52 = true:=by kernel_rfl
theorem ajl : bk Tryz.prog 53 = true:=by kernel_rfl
set_option maxHeartbeats 4000000 in
theorem uu (L s : Int) (vn ve : Value) (next : List (List Int)) (fin : List Bool) (w : World) (hm : Ma w L s next fin vn ve) (hs : Shape L s next fin) (hn : next.length ≤ 1000000) (hL : L ≤ 1000) :
  Calls Tryz.prog 18 #[.agg #[Vi L,Vi s,vn,ve]] w fun e w'=>∃ (s' : Int) (vn' ve' : Value) (n' : List (List Int)) (f' : List Bool),e = .returned (.agg #[Vi L,Vi s',vn',ve']) ∧ OwnM w.heap.size w' n' f' vn' ve' ∧ RowKit.Below w.heap.size w w' ∧
   Canon L s' n' f' ∧ dq L.toNat n' f' s' next fin s ∧ n'.length ≤ next.length:=by
 refine Sym.c8 (args:=[.agg #[Vi L,Vi s,vn,ve]]) Tryz.func18 rfl rfl rfl (fun a0 hS0=>?_);have hs' : Shape (L.toNat : Int) s next fin:=by rw [Int.toNat_of_nonneg hs.L0]; exact hs
 have hL0:=hs.L0;obtain ⟨N,hN⟩ : ∃ N,N = (w.alloc (.cells #[Vi L,Vi s,vn,ve] 25)).heap.size:=⟨_,rfl⟩;obtain ⟨M,hM⟩ : ∃ M,M = w.heap.size:=⟨_,rfl⟩;refine wp_seq (ai [(1,Vp M),(2,Vp N)] (· = (w.alloc (.cells #[Vi L,Vi s,vn,ve] 25)).alloc (.cells #[Vi 0,Vi 0,.slice none 0 0,.slice none 0 0] 25)) af hS0 ?_ (fun a wc hS hw=>?_))
 ·subst hN hM;refine zB rfl ?_;refine zB rfl ?_;exact aj ⟨⟨rfl,rfl,trivial⟩,rfl⟩
 have hB1:=ao w (.cells #[Vi L,Vi s,vn,ve] 25);have hB2:=ao (w.alloc (.cells #[Vi L,Vi s,vn,ve] 25)) (.cells #[Vi 0,Vi 0,.slice none 0 0,.slice none 0 0] 25);rw [← hw] at hB2;have hB:=ak hB1 hB2;have hx : Box wc M L s vn ve:=by rw [hM]; exact (Box.new w L s vn ve 25).keep hB2
 have hoN : OwnB wc N 25 [Vi 0,Vi 0,.slice none 0 0,.slice none 0 0]:=by rw [hw,hN]; exact OwnB.new _ _ _
 have hNw : w.heap.size ≤ N:=by rw [hN]; exact hB1.size
 have hNc : N < wc.heap.size:=hoN.lt;clear hw hB1 hB2 hN hM;replace hm:=hm.keep hB;refine wp_seq (bg (α:=Nat × Nat × List Int × Nat) (fun x=>[(1,Vp M),(2,Vp N),(3,Vs x.1 next.length x.2.1)]) (fun x w'=>RowKit.Below wc.heap.size wc w' ∧ Rows wc.heap.size w' [oI (Vs x.1 next.length x.2.1) x.2.2.1] ∧ Cls L.toNat next fin x.2.2.1 x.2.2.2) af hS ?_ (fun x a w1 hS h1=>?_))
 ·refine zA ([Vi L,Vi s,vn,ve]) rfl rfl (hx.cells) ?_;refine zF rfl (ad1) (aa7 L s vn ve next fin _ hm hs (by omega)) ?_;rintro e w1 ⟨g,c,cls,m,rfl,h1,h2,h3⟩;refine ⟨_,rfl,?_⟩
  repeat refine zX rfl ?_
  exact aj ⟨(g,c,cls,m),⟨rfl,rfl,rfl,trivial⟩,h2,h1,h3⟩
 obtain ⟨O,cO,cls,m⟩:=x;obtain ⟨hK,hRO,hC⟩:=h1;dsimp only at hS hRO hC;have hcl:=hC.len
 have hO : w1.ownsRow wc.heap.size 3 1 (Vs O next.length cO) next.length (ints cls):=by
  have this : w1.ownsRow wc.heap.size 3 1 (Vs O next.length cO) cls.length (ints cls):=hRO.1 0 _ rfl;rw [hcl] at this; exact this
 clear hRO
 have hmn : m ≤ next.length:=by
  have hnd : ∃ rep : Nat → Nat,∀ v,v < m → rep v < next.length ∧ cls.getD (rep v) 0 = (v : Int):=by
   have : ∀ v : Nat,∃ i : Nat,v < m → i < next.length ∧ cls.getD i 0 = (v : Int):=fun v=>by
    by_cases hv : v < m
    ·obtain ⟨i,a,b⟩:=hC.hit v hv;exact ⟨i,fun _=>⟨a,b⟩⟩
    ·exact ⟨0,fun h=>(hv h).elim⟩
   exact Classical.axiomOfChoice this
  obtain ⟨rep,hrep⟩:=hnd
  have h1 : ((List.range m).map rep).Nodup:=by
   refine List.pairwise_map.2 (List.Pairwise.imp_of_mem (R:=(· ≠ ·)) (fun {a b} ha hb hab he=>hab ?_) List.nodup_range);have h2:=(hrep a (List.mem_range.1 ha)).2;have h3:=(hrep b (List.mem_range.1 hb)).2;rw [he] at h2;omega
  have:=h1.length_le_of_subset (l₂:=List.range next.length) (fun x hx=>by
   obtain ⟨v,hv,rfl⟩:=List.mem_map.1 hx;exact List.mem_range.2 (hrep v (List.mem_range.1 hv)).1)
  simpa using this
 have hcrng : ∀ x ∈ cls,-1 ≤ x ∧ x < m:=fun x hx=>by
  obtain ⟨j,hj,rfl⟩:=List.mem_iff_getElem.1 hx;have a:=hC.low j (by omega);have b:=hC.top j (by omega);rw [d9 hj] at a b;exact ⟨a,b⟩
 have hcell : ∀ {w' : World},w'.ownsRow wc.heap.size 3 1 (Vs O next.length cO) next.length (ints cls) → ∀ {j : Nat} (hj : j < cls.length),w'.cell? ⟨O,0 + j,none⟩ = some (Vi cls[j]):=fun h j hj=>iy h hj hcl.symm;obtain ⟨b30,hb30⟩ : ∃ b,decide (dr cls s < 0) = b:=⟨_,rfl⟩;refine wp_seq (wp_seq (ai [(1,Vp M),(2,Vp N),(3,Vs O next.length cO),(30,.bool b30)] (· = w1) af hS ?_ (fun a w2 hS hw=>?_)))
 ·repeat refine zX rfl ?_
  refine zL rfl ((hx.keep hK).c1) ?_
  cases e1 : decide (s < 0)
  case true=>
   rw [eo (of_decide_eq_true e1)] at hb30;subst hb30;refine zC rfl (e1) ?_
   repeat refine zX rfl ?_
   exact aj ⟨⟨rfl,rfl,rfl,rfl,trivial⟩,rfl⟩
  case false=>
   have h0:=of_decide_eq_false e1;obtain ⟨z,rfl⟩:=Int.eq_ofNat_of_zero_le (Int.not_lt.1 h0);have hz : z < cls.length:=by have:=hs.s2; omega
   rw [dh,d9 hz] at hb30;refine zC rfl (e1) ?_
   repeat refine zX rfl ?_
   refine zL rfl ((hx.keep hK).c1) ?_;refine zI rfl (rfl) ((by omega : z < next.length)) ?_;refine zL rfl (hcell hO hz) ?_;refine zC rfl (hb30) ?_
   repeat refine zX rfl ?_
   exact aj ⟨⟨rfl,rfl,rfl,rfl,trivial⟩,rfl⟩
 subst hw;refine cond hS rfl (fun hT=>?_) (fun hF=>?_)
 ·rw [hT] at hb30;have hneg:=of_decide_eq_true hb30
  have hdead : ¬ Live L.toNat next fin s:=fun hl=>by
   have h0:=hl.pos;obtain ⟨z,rfl⟩:=Int.eq_ofNat_of_zero_le h0;rw [dh] at hneg
   have:=(hC.live z (by have:=hs.s2; omega)).2 hl
   omega
  obtain ⟨hcn,hal⟩:=adj hL0 hdead;have hoN2:=hoN.keep hK hNc;refine wp_seq (ai [(2,Vp N)] (fun w'=>RowKit.Below w.heap.size w w' ∧ OwnB w' N 25 [Vi L,Vi (-1),.slice none 0 0,.slice none 0 0]) af hS ?_ (fun a w3 hS hw=>?_))
  ·repeat refine zX rfl ?_
   refine zL rfl ((hx.keep hK).c0) ?_;refine zF rfl (en_none) (aiu L _) ?_;rintro e w3 ⟨rfl,h3⟩;refine ⟨_,rfl,?_⟩;have hoN3:=hoN2.keep h3 hoN2.lt;have hg:=bz N [Vi L,Vi (-1),.slice none 0 0,.slice none 0 0] 0 w3;refine cj rfl rfl (anI rfl (anI rfl (anI (b0 hoN3) ?_)));exact aj ⟨⟨rfl,trivial⟩,a6 (ak (ak hB hK) h3) hg (fun k hk=>by cases hk; exact hNw),hoN3.sets rfl⟩
  obtain ⟨hBf,hoF⟩:=hw;refine wp_ret ?_
  repeat first|refine a8 ?_|refine am ?_
  refine wl af hS rfl rfl rfl rfl (o:=0) (vs:=[Vi L,Vi (-1),.slice none 0 0,.slice none 0 0]) ⟨hoF.cell (i:=0) rfl,hoF.cell (i:=1) rfl,hoF.cell (i:=2) rfl,hoF.cell (i:=3) rfl,trivial⟩ rfl ⟨-1,_,_,[],[],rfl,?_,hBf,hcn,hal,Nat.zero_le _⟩;exact ⟨World.ownsRow_nil _ _ _ _,[],rfl,World.ownsRow_nil _ _ _ _,fun i hi=>by simp at hi⟩
 rw [hF] at hb30;have hcs0 : 0 ≤ dr cls s:=by have:=of_decide_eq_false hb30; omega
 have hsp : 0 ≤ s:=by
  refine Int.not_lt.1 fun h=>?_;rw [eo h] at hcs0; omega
 obtain ⟨z,rfl⟩:=Int.eq_ofNat_of_zero_le hsp;have hz : z < cls.length:=by have:=hs.s2; omega
 refine wp_skip ?_;refine wp_seq (ai [(1,Vp M),(2,Vp N),(3,Vs O next.length cO),(4,Vi 0)] (· = w2) af hS ?_ (fun a w3 hS hw=>?_))
 ·repeat refine zX rfl ?_
  exact aj ⟨⟨rfl,rfl,rfl,rfl,trivial⟩,rfl⟩
 subst hw;refine wp_seq (cut (F:=fun a' w'=>w' = w3 ∧ St Tryz.f18.ntmps a' [(1,Vp M),(2,Vp N),(3,Vs O next.length cO),(4,Vi m)]) ?_ ?_)
 ·refine wp_seq (ai [(1,Vp M),(2,Vp N),(3,Vs O next.length cO),(4,Vi 0),(5,Vi 0)] (· = w3) af hS ?_ (fun a w4 hS hw=>?_))
  ·repeat refine zX rfl ?_
   exact aj ⟨⟨rfl,rfl,rfl,rfl,rfl,trivial⟩,rfl⟩
  subst hw
  refine wp_block (cz hS (fun g E wr=>∃ (i : Nat) (ct : Int),i ≤ next.length ∧ g = next.length - i ∧ E = [(1,Vp M),(2,Vp N),(3,Vs O next.length cO),(4,Vi ct),(5,Vi i)] ∧ wr = w4 ∧ MaxI cls i ct)
   next.length ⟨0,0,Nat.zero_le _,rfl,rfl,rfl,⟨Int.le_refl _,fun j hj=>by omega,.inl rfl⟩⟩ ?_)
  rintro g E wr a1 ⟨i,ct,hi,rfl,rfl,rfl,hI⟩ hS;refine wp_seq (wp_seq (ai [(1,Vp M),(2,Vp N),(3,Vs O next.length cO),(4,Vi ct),(5,Vi i),(37,.bool (decide ((i : Int) < next.length)))] (· = wr) af hS ?_ (fun a w5 hS hw=>?_)))
  ·repeat refine zX rfl ?_
   refine zC rfl (rfl) ?_;exact aj ⟨⟨rfl,rfl,rfl,rfl,rfl,rfl,trivial⟩,rfl⟩
  subst hw;refine cond hS rfl (fun hT=>?_) (fun hF=>?_)
  case refine_2=>
   refine wp_exit ?_
   repeat first|refine bf ?_|refine ba ?_|refine az rfl ?_
   obtain rfl : i = next.length:=by have:=of_decide_eq_false hF; omega
   obtain rfl:=hI.end hC;exact ⟨rfl,hS.sub ⟨rfl,rfl,rfl,rfl,trivial⟩⟩
  have hlt : i < next.length:=by have:=of_decide_eq_true hT; omega
  have hic : i < cls.length:=by omega
  have hr:=hcrng cls[i] (List.getElem_mem hic);refine wp_skip ?_;refine wp_seq (wp_block ?_);refine ai [(1,Vp M),(2,Vp N),(3,Vs O next.length cO),(4,Vi (if cls[i] + 1 > ct then cls[i] + 1 else ct)),(5,Vi i)] (· = w5) af hS ?_ (fun a w6 hS hw=>?_)
  ·repeat refine zX rfl ?_
   refine zI rfl (rfl) (hlt) ?_;refine zL rfl (hcell hO hic) ?_;refine zN rfl (aem (y:=cls[i] + 1) rfl (by omega) (by omega)) ?_;refine zN rfl (rfl) ?_
   repeat refine zX rfl ?_
   exact aj ⟨⟨rfl,rfl,rfl,rfl,rfl,trivial⟩,rfl⟩
  subst hw;refine ay ?_;refine b4 ?_;refine ai [(1,Vp M),(2,Vp N),(3,Vs O next.length cO),(4,Vi (if cls[i] + 1 > ct then cls[i] + 1 else ct)),(5,Vi (i + 1 : Nat))] (· = w6) af hS ?_ (fun a w7 hS hw=>?_)
  ·repeat refine zX rfl ?_
   refine zN rfl (ck (by omega)) ?_
   repeat refine zX rfl ?_
   exact aj ⟨⟨rfl,rfl,rfl,rfl,rfl,trivial⟩,rfl⟩
  subst hw;exact ⟨next.length - (i + 1),_,by omega,⟨i + 1,_,hlt,rfl,rfl,rfl,hI.step (d9 hic)⟩,hS⟩
 rintro a w4 ⟨rfl,hS⟩;have hO':=hO;rw [← hcl] at hO';rw [← hcl] at hS;refine wp_seq (ae6 (base:=wc.heap.size) (hx.keep hK) hO' hz hK.size (by omega) (by rfl) hS (fun x a w5 hS h5=>?_));rw [hcl] at hS;obtain ⟨P,Q,K⟩:=x;obtain ⟨hw5,hR9⟩:=h5;dsimp only at hS hR9;have hK5:=ak hK hw5;replace hO:=hO.kept (et hw5) (fw _);clear hw5 hO';have hKc : wc.heap.size ≤ K:=hR9.b;refine wp_seq (cut (F:=fun a' w'=>∃ (vs : List Value) (sn : List (List Int)) (sf : List Bool),St Tryz.f18.ntmps a' [(1,Vp M),(2,Vp N),(6,Vp K)] ∧ RowKit.Below wc.heap.size wc w' ∧ OwnB w' K 25 [Vi L,Vi cls[z],Vs P m m,Vs Q m m] ∧ ShI wc.heap.size w' P Q m cls next fin L.toNat next.length vs sn sf) ?_ ?_)
 ·refine wp_seq (ai [(1,Vp M),(2,Vp N),(3,Vs O next.length cO),(6,Vp K),(7,Vi 0)] (· = w5) af hS ?_ (fun a w6 hS hw=>?_))
  ·repeat refine zX rfl ?_
   exact aj ⟨⟨rfl,rfl,rfl,rfl,rfl,trivial⟩,rfl⟩
  subst hw
  have hI0 : ShI wc.heap.size w6 P Q m cls next fin L.toNat 0 (List.replicate m (.slice none 0 0)) (List.replicate m []) (List.replicate m false):=
   ⟨hR9.p,by simpa using hR9.q,by simp,by simp,by simp,fun v hv ⟨j,hj,_⟩=>by omega,fun v hv _=>by simp [hv]⟩
  refine wp_block (cz hS (fun g E wr=>∃ (i : Nat) (vs : List Value) (sn : List (List Int)) (sf : List Bool),i ≤ next.length ∧ g = next.length - i ∧ E = [(1,Vp M),(2,Vp N),(3,Vs O next.length cO),(6,Vp K),(7,Vi i)] ∧ RowKit.Below wc.heap.size wc wr ∧
    wr.ownsRow wc.heap.size 3 1 (Vs O next.length cO) next.length (ints cls) ∧ OwnB wr K 25 [Vi L,Vi cls[z],Vs P m m,Vs Q m m] ∧ ShI wc.heap.size wr P Q m cls next fin L.toNat i vs sn sf)
   next.length ⟨0,_,_,_,Nat.zero_le _,rfl,rfl,hK5,hO,hR9.k,hI0⟩ ?_)
  clear hI0 hR9 hO hK5 hS hK;rintro g E wr a1 ⟨i,vs,sn,sf,hi,rfl,rfl,hK,hO,hk,hI⟩ hS;refine wp_seq (wp_seq (ai [(1,Vp M),(2,Vp N),(3,Vs O next.length cO),(6,Vp K),(7,Vi i),(62,.bool (decide ((i : Int) < next.length)))] (· = wr) af hS ?_ (fun a w7 hS hw=>?_)))
  ·repeat refine zX rfl ?_
   refine zC rfl (rfl) ?_;exact aj ⟨⟨rfl,rfl,rfl,rfl,rfl,rfl,trivial⟩,rfl⟩
  subst hw;refine cond hS rfl (fun hT=>?_) (fun hF=>?_)
  case refine_2=>
   refine wp_exit ?_
   repeat first|refine bf ?_|refine ba ?_|refine az rfl ?_
   obtain rfl : i = next.length:=by have:=of_decide_eq_false hF; omega
   exact ⟨vs,sn,sf,hS.sub ⟨rfl,rfl,rfl,trivial⟩,hK,hk,hI⟩
  have hlt : i < next.length:=by have:=of_decide_eq_true hT; omega
  have hic : i < cls.length:=by omega
  obtain ⟨c,hc⟩ : ∃ c,cls[i] = c:=⟨_,rfl⟩;have hcd : cls.getD i 0 = c:=by rw [d9 hic,hc]
  have hcr:=hcrng cls[i] (List.getElem_mem hic);rw [hc] at hcr;refine wp_skip ?_
  refine wp_seq (cut (F:=fun a' w'=>∃ (vs : List Value) (sn : List (List Int)) (sf : List Bool),St Tryz.f18.ntmps a' [(1,Vp M),(2,Vp N),(3,Vs O next.length cO),(6,Vp K),(7,Vi i)] ∧ RowKit.Below wc.heap.size wc w' ∧
    w'.ownsRow wc.heap.size 3 1 (Vs O next.length cO) next.length (ints cls) ∧ OwnB w' K 25 [Vi L,Vi cls[z],Vs P m m,Vs Q m m] ∧ ShI wc.heap.size w' P Q m cls next fin L.toNat (i + 1) vs sn sf) ?_ ?_)
  ·refine wp_block ?_;refine wp_seq (ai [(1,Vp M),(2,Vp N),(3,Vs O next.length cO),(6,Vp K),(7,Vi i),(8,Vi c)] (· = w7) af hS ?_ (fun a w8 hS hw=>?_))
   ·repeat refine zX rfl ?_
    refine zI rfl (rfl) (hlt) ?_;refine zL rfl (hc ▸ hcell hO hic) ?_
    repeat refine zX rfl ?_
    exact aj ⟨⟨rfl,rfl,rfl,rfl,rfl,rfl,trivial⟩,rfl⟩
   subst hw
   have hcase : (cls.getD i 0 < 0 ∨ ∃ v : Nat,v < m ∧ cls.getD i 0 = (v : Int) ∧ ∃ j,j < i ∧ cls.getD j 0 = (v : Int)) ∨ ∃ v : Nat,v < m ∧ c = (v : Int) ∧ ∀ j,j < i → cls.getD j 0 ≠ (v : Int):=by
    by_cases h0 : c < 0
    ·exact .inl (.inl (by rw [hcd]; exact h0))
    ·obtain ⟨v,rfl⟩:=Int.eq_ofNat_of_zero_le (Int.not_lt.1 h0)
     by_cases hex : ∃ j,j < i ∧ cls.getD j 0 = (v : Int)
     ·exact .inl (.inr ⟨v,by omega,hcd,hex⟩)
     ·exact .inr ⟨v,by omega,rfl,fun j hj e=>hex ⟨j,hj,e⟩⟩
   rcases hcase with hskip | ⟨v,hv,rfl,hnew⟩
   ·refine wp_seq (wp_seq (ai [(1,Vp M),(2,Vp N),(3,Vs O next.length cO),(6,Vp K),(7,Vi i),(78,.bool true)] (· = w8) af hS ?_ (fun a w9 hS hw=>?_)))
    ·repeat refine zX rfl ?_
     cases e1 : decide (c < 0)
     case true=>
      refine zC rfl (e1) ?_
      repeat refine zX rfl ?_
      exact aj ⟨⟨rfl,rfl,rfl,rfl,rfl,rfl,trivial⟩,rfl⟩
     case false=>
      have h0:=of_decide_eq_false e1
      rcases hskip with h1 | ⟨v,hv,hcv,hex⟩
      ·rw [hcd] at h1; exact (h0 h1).elim
      ·rw [hcd] at hcv;subst hcv;obtain ⟨_,g,cg,hg1,hg2⟩:=hI.done v hv hex
       have hcellP : w8.cell? ⟨P,0 + v,none⟩ = some (Vs g L.toNat cg):=by
        rw [Nat.zero_add,World.ownsRow.cellAt hI.p v (by omega)]; exact hg1
       refine zC rfl (e1) ?_
       repeat refine zX rfl ?_
       refine zL rfl (hk.cell (i:=2) rfl) ?_
       repeat refine zX rfl ?_
       refine zI rfl (rfl) (hv) ?_;refine zL rfl (hcellP) ?_
       repeat refine zX rfl ?_
       exact aj ⟨⟨rfl,rfl,rfl,rfl,rfl,rfl,trivial⟩,rfl⟩
    subst hw;refine cond hS rfl (fun _=>?_) (fun hF=>by cases hF);refine wp_exit ?_
    repeat first|refine bf ?_|refine ba ?_|refine az rfl ?_
    exact ⟨vs,sn,sf,hS.sub ⟨rfl,rfl,rfl,rfl,rfl,trivial⟩,hK,hO,hk,hI.skip hskip⟩
   have hnil:=hI.todo v hv hnew
   have hcellP : w8.cell? ⟨P,0 + v,none⟩ = some (.slice none 0 0):=by
    rw [Nat.zero_add,World.ownsRow.cellAt hI.p v (by omega)]; exact hnil
   refine wp_seq (wp_seq (ai [(1,Vp M),(2,Vp N),(3,Vs O next.length cO),(6,Vp K),(7,Vi i),(8,Vi v),(78,.bool false)] (· = w8) af hS ?_ (fun a w9 hS hw=>?_)))
   ·have h0 : ¬ (v : Int) < 0:=by omega
    repeat refine zX rfl ?_
    refine zC rfl (decide_eq_false h0) ?_
    repeat refine zX rfl ?_
    refine zL rfl (hk.cell (i:=2) rfl) ?_
    repeat refine zX rfl ?_
    refine zI rfl (rfl) (hv) ?_;refine zL rfl (hcellP) ?_
    repeat refine zX rfl ?_
    exact aj ⟨⟨rfl,rfl,rfl,rfl,rfl,rfl,rfl,trivial⟩,rfl⟩
   subst hw;refine cond hS rfl (fun hT=>by cases hT) (fun _=>?_);refine wp_skip ?_;obtain ⟨Ln,hLn⟩ : ∃ Ln : Nat,L = (Ln : Int):=⟨L.toNat,by omega⟩;obtain ⟨G,hG⟩ : ∃ G,G = w9.heap.size:=⟨_,rfl⟩;refine wp_seq (ai [(1,Vp M),(2,Vp N),(3,Vs O next.length cO),(6,Vp K),(7,Vi i),(8,Vi v),(9,Vs G L.toNat L.toNat)] (· = w9.alloc (.cells (madeCells #[Vi 0] L.toNat) 3)) af hS ?_ (fun a w10 hS hw=>?_))
   ·subst hG
    repeat refine zX rfl ?_
    refine zL rfl ((hx.keep hK).c0) ?_;rw [hLn,Int.toNat_natCast];refine zM (Ln) rfl rfl rfl rfl rfl ((by show 8 * _ ≤ _; omega)) ((by omega)) ?_
    repeat refine zX rfl ?_
    exact aj ⟨⟨rfl,rfl,rfl,rfl,rfl,rfl,rfl,trivial⟩,rfl⟩
   have hown:=fg w9 w9.heap.size 3 L.toNat (Vi 0) (Nat.le_refl _) (by omega);have hb10:=ao w9 (.cells (madeCells #[Vi 0] L.toNat) 3);rw [← hw,← hG] at hown;rw [← hw,← hG] at hb10;have hown : w10.ownsRow G 3 1 (Vs G L.toNat L.toNat) L.toNat (ints (List.replicate L.toNat 0)):=by simpa using hown
   clear hw
   refine wp_seq (cut (F:=fun a' w'=>∃ row : List Int,St Tryz.f18.ntmps a' [(1,Vp M),(2,Vp N),(3,Vs O next.length cO),(6,Vp K),(7,Vi i),(8,Vi v),(9,Vs G L.toNat L.toNat)] ∧ RowKit.Below G w9 w' ∧
     w'.ownsRow G 3 1 (Vs G L.toNat L.toNat) L.toNat (ints row) ∧ row = (List.range L.toNat).map (fun k=>dr cls (tgtM next i k))) ?_ ?_)
   ·have hrl : next[i].length = L.toNat:=by have:=(hs'.rows i hlt).1; omega
    have hrv:=(hs'.rows i hlt).2;have hGs : G ≤ w10.heap.size:=by rw [hG]; exact hb10.size
    refine wp_seq (ai [(1,Vp M),(2,Vp N),(3,Vs O next.length cO),(6,Vp K),(7,Vi i),(8,Vi v),(9,Vs G L.toNat L.toNat),(10,Vi 0)] (· = w10) af hS ?_ (fun a w11 hS hw=>?_))
    ·repeat refine zX rfl ?_
     exact aj ⟨⟨rfl,rfl,rfl,rfl,rfl,rfl,rfl,rfl,trivial⟩,rfl⟩
    subst hw
    refine wp_block (cz hS (fun g E wr=>∃ (k : Nat) (row : List Int),k ≤ L.toNat ∧ g = L.toNat - k ∧ E = [(1,Vp M),(2,Vp N),(3,Vs O next.length cO),(6,Vp K),(7,Vi i),(8,Vi v),(9,Vs G L.toNat L.toNat),(10,Vi k)] ∧
      RowKit.Below w9.heap.size w9 wr ∧ wr.ownsRow G 3 1 (Vs G L.toNat L.toNat) L.toNat (ints row) ∧ row.length = L.toNat ∧ ∀ c,c < k → row.getD c 0 = dr cls (tgtM next i c))
     L.toNat ⟨0,_,Nat.zero_le _,rfl,rfl,hG ▸ hb10,hown,by simp,fun c hc=>by omega⟩ ?_)
    clear hb10 hown hGs hS;rintro g E wr a1 ⟨k,row,hk',rfl,rfl,hb,hown,hlen,hrow⟩ hS;refine wp_seq (wp_seq (ai [(1,Vp M),(2,Vp N),(3,Vs O next.length cO),(6,Vp K),(7,Vi i),(8,Vi v),(9,Vs G L.toNat L.toNat),(10,Vi k),(85,.bool (decide ((k : Int) < L)))] (· = wr) af hS ?_ (fun a w12 hS hw=>?_)))
    ·repeat refine zX rfl ?_
     refine zL rfl ((hx.keep (ak hK hb)).c0) ?_;refine zC rfl (rfl) ?_;exact aj ⟨⟨rfl,rfl,rfl,rfl,rfl,rfl,rfl,rfl,rfl,trivial⟩,rfl⟩
    subst hw;refine cond hS rfl (fun hT=>?_) (fun hF=>?_)
    case refine_2=>
     refine wp_exit ?_
     repeat first|refine bf ?_|refine ba ?_|refine az rfl ?_
     obtain rfl : k = L.toNat:=by have:=of_decide_eq_false hF; omega
     refine ⟨row,hS.sub ⟨rfl,rfl,rfl,rfl,rfl,rfl,rfl,trivial⟩,hG ▸ hb,hown,?_⟩;refine List.ext_getElem (by simp [hlen]) fun c h1 h2=>?_
     have:=hrow c (by omega)
     rw [d9 h1] at this;simp [this]
    have hkL : k < L.toNat:=by have:=of_decide_eq_true hT; omega
    have hkr : k < next[i].length:=by omega
    obtain ⟨t,ht⟩ : ∃ t,next[i][k] = t:=⟨_,rfl⟩;have htr:=hrv k hkr;rw [ht] at htr;have htg : tgtM next i k = t:=by rw [pw hlt hkr,ht]
    refine wp_skip ?_;refine wp_seq (wp_block ?_);refine wp_seq (ai [(1,Vp M),(2,Vp N),(3,Vs O next.length cO),(6,Vp K),(7,Vi i),(8,Vi v),(9,Vs G L.toNat L.toNat),(10,Vi k)] (· = w12.setCell ⟨G,0 + k,none⟩ (Vi (-1))) af hS ?_ (fun a w13 hS hw=>?_))
    ·repeat refine zX rfl ?_
     refine zI rfl (rfl) (hkL) ?_;refine zS rfl rfl (iy hown (j:=k) (by omega) hlen.symm) (iv hown k) ?_;exact aj ⟨⟨rfl,rfl,rfl,rfl,rfl,rfl,rfl,rfl,trivial⟩,rfl⟩
    rw [Nat.zero_add] at hw;have hown13:=iu hown k (-1);have hb13:=a6 hb (hown.stored k (Vi (-1))).2 (fun q hq=>by cases hq; omega);rw [← hw] at hown13 hb13;clear hw hown hb;have hlen13 : (row.set k (-1)).length = L.toNat:=by simp [hlen]
    have hrow13 : ∀ c,c < k → (row.set k (-1)).getD c 0 = dr cls (tgtM next i c):=fun c hc=>by
     rw [← hrow c hc];simp [List.getD_eq_getElem?_getD,List.getElem?_set_ne (show k ≠ c by omega)]
    have hat13 : (row.set k (-1)).getD k 0 = -1:=by simp [List.getD_eq_getElem?_getD,hlen,hkL]
    generalize row.set k (-1) = r2 at *
    refine wp_seq (ai [(1,Vp M),(2,Vp N),(3,Vs O next.length cO),(6,Vp K),(7,Vi i),(8,Vi v),(9,Vs G L.toNat L.toNat),(10,Vi k),(99,.bool (decide (0 ≤ t)))] (· = w13) af hS ?_ (fun a w14 hS hw=>?_))
    ·obtain ⟨bn,on,cn,hvn,ar,cr,hc1,hc2⟩:=(hm.keep (ak hK hb13)).cell hlt;obtain ⟨br,orr,rfl,hc3⟩:=hc2 k hkr;subst hvn;rw [ht] at hc3
     repeat refine zX rfl ?_
     refine zL rfl ((hx.keep (ak hK hb13)).c2) ?_
     repeat refine zX rfl ?_
     refine zI rfl (rfl) (hlt) ?_;refine zL rfl (hc1) ?_
     repeat refine zX rfl ?_
     refine zI rfl (rfl) (hkr) ?_;refine zL rfl (hc3) ?_;refine zC rfl (rfl) ?_;exact aj ⟨⟨rfl,rfl,rfl,rfl,rfl,rfl,rfl,rfl,rfl,trivial⟩,rfl⟩
    subst hw
    refine cut (F:=fun a' w'=>∃ row : List Int,St Tryz.f18.ntmps a' [(1,Vp M),(2,Vp N),(3,Vs O next.length cO),(6,Vp K),(7,Vi i),(8,Vi v),(9,Vs G L.toNat L.toNat),(10,Vi k)] ∧
      RowKit.Below w9.heap.size w9 w' ∧ w'.ownsRow G 3 1 (Vs G L.toNat L.toNat) L.toNat (ints row) ∧ row.length = L.toNat ∧ ∀ c,c < k + 1 → row.getD c 0 = dr cls (tgtM next i c)) ?_ ?_
    ·refine cond hS rfl (fun hT=>?_) (fun hF=>?_)
     ·obtain ⟨tn,rfl⟩:=Int.eq_ofNat_of_zero_le (of_decide_eq_true hT);have htc : tn < cls.length:=by omega
      refine ai [(1,Vp M),(2,Vp N),(3,Vs O next.length cO),(6,Vp K),(7,Vi i),(8,Vi v),(9,Vs G L.toNat L.toNat),(10,Vi k)] (· = w14.setCell ⟨G,0 + k,none⟩ (Vi cls[tn])) af hS ?_ (fun a w15 hS hw=>?_)
      ·obtain ⟨bn,on,cn,hvn,ar,cr,hc1,hc2⟩:=(hm.keep (ak hK hb13)).cell hlt;obtain ⟨br,orr,rfl,hc3⟩:=hc2 k hkr;subst hvn;rw [ht] at hc3
       repeat refine zX rfl ?_
       refine zL rfl ((hx.keep (ak hK hb13)).c2) ?_
       repeat refine zX rfl ?_
       refine zI rfl (rfl) (hlt) ?_;refine zL rfl (hc1) ?_
       repeat refine zX rfl ?_
       refine zI rfl (rfl) (hkr) ?_;refine zL rfl (hc3) ?_;refine zI rfl (rfl) ((by omega : tn < next.length)) ?_;refine zL rfl (hcell (hO.kept (et hb13) (fw _)) htc) ?_;refine zI rfl (rfl) (hkL) ?_;refine zS rfl rfl (iy hown13 (j:=k) (by omega) hlen13.symm) (iv hown13 k) ?_;exact aj ⟨⟨rfl,rfl,rfl,rfl,rfl,rfl,rfl,rfl,trivial⟩,rfl⟩
      rw [Nat.zero_add] at hw;have hown15:=iu hown13 k cls[tn];have hb15:=a6 hb13 (hown13.stored k (Vi cls[tn])).2 (fun q hq=>by cases hq; omega);rw [← hw] at hown15 hb15;refine ⟨_,hS,hb15,hown15,by simp [hlen13],fun c hc=>?_⟩
      by_cases hck : c = k
      ·subst hck;rw [htg,dh,d9 htc];simp [List.getD_eq_getElem?_getD,hlen13,hkL]
      ·rw [← hrow13 c (by omega)];simp [List.getD_eq_getElem?_getD,List.getElem?_set_ne (fun e=>hck e.symm)]
     ·refine wp_skip ⟨r2,hS.sub ⟨rfl,rfl,rfl,rfl,rfl,rfl,rfl,rfl,trivial⟩,hb13,hown13,hlen13,fun c hc=>?_⟩
      by_cases hck : c = k
      ·subst hck;rw [hat13,htg,eo (by have:=of_decide_eq_false hF; omega)]
      ·exact hrow13 c (by omega)
    rintro a w15 ⟨row',hS,hb15,hown15,hlen15,hrow15⟩;refine ay ?_;refine b4 ?_;refine ai [(1,Vp M),(2,Vp N),(3,Vs O next.length cO),(6,Vp K),(7,Vi i),(8,Vi v),(9,Vs G L.toNat L.toNat),(10,Vi (k + 1 : Nat))] (· = w15) af hS ?_ (fun a w16 hS hw=>?_)
    ·repeat refine zX rfl ?_
     refine zN rfl (ck (by omega)) ?_
     repeat refine zX rfl ?_
     exact aj ⟨⟨rfl,rfl,rfl,rfl,rfl,rfl,rfl,rfl,trivial⟩,rfl⟩
    subst hw;exact ⟨L.toNat - (k + 1),_,by omega,⟨k + 1,row',hkL,rfl,rfl,hb15,hown15,hlen15,hrow15⟩,hS⟩
   rintro a w11 ⟨row,hS,hb11,hown11,hrow⟩;rw [hG] at hb11;have hK11:=ak hK hb11;have hI11:=hI.kept (et hb11);have hk11:=hk.keep hb11 hk.lt;have hO11:=hO.kept (et hb11) (fw _);have hown11 : w11.ownsRow wc.heap.size 3 1 (Vs G L.toNat L.toNat) L.toNat (ints row):=ez hown11 (by rw [hG]; exact hK.size);clear hb11 hK hI hk hO hb10 hown hG;have hPlt:=hI11.p.lt P rfl;have hQlt:=hI11.q.lt Q rfl;have hfi : i < fin.length:=by have:=hs.fin; omega
   have hfd : fin.getD i false = fin[i]:=d9 hfi;refine wp_seq (ai [(1,Vp M),(2,Vp N),(3,Vs O next.length cO),(6,Vp K),(7,Vi i),(8,Vi v)] (· = w11.setCell ⟨P,0 + v,none⟩ (Vs G L.toNat L.toNat)) af hS ?_ (fun a w12 hS hw=>?_))
   ·have hc11 : w11.cell? ⟨P,0 + v,none⟩ = some (vs[v]'(by have:=hI11.lv; omega)):=by
     rw [Nat.zero_add,World.ownsRow.cellAt hI11.p v (by omega)];exact List.getElem?_eq_getElem _
    have hf11 : w11.frozen? ⟨P,0 + v,none⟩ = false:=by rw [Nat.zero_add]; exact hI11.p.frozenAt v
    repeat refine zX rfl ?_
    refine zL rfl (hk11.cell (i:=2) rfl) ?_
    repeat refine zX rfl ?_
    refine zI rfl (rfl) (hv) ?_;refine zS rfl rfl (hc11) (hf11) ?_;exact aj ⟨⟨rfl,rfl,rfl,rfl,rfl,rfl,trivial⟩,rfl⟩
   have hg12 : w11.grownBy w12 (some P):=by rw [hw,Nat.zero_add]; exact (World.ownsRow.stored hI11.p v _).2
   have hK12:=a6 hK11 hg12 (fun q hq=>by cases hq; exact hPlt.1);have hO12:=hO11.kept hg12 (jp hI11.p hO11 (by decide));have hk12:=hk11.kept hg12 (gz hI11.p hk11 (by decide));have hQ12:=hI11.q.kept hg12 (jp hI11.p hI11.q (by decide));refine d5 9 [(1,Vp M),(2,Vp N),(3,Vs O next.length cO),(6,Vp K),(7,Vi i)] (· = w12.drew.setCell ⟨Q,0 + v,none⟩ (.bool fin[i])) dc hS ?_ (fun a w13 hS hw13=>?_)
   ·have hy : RowKit.Below w12.drew.heap.size w12.drew w12.drew:=RowKit.Below.refl _ _;obtain ⟨be,oe,ce,hve,hce⟩:=(hm.keep hK12).end hfi;subst hve
    have hc12 : w12.cell? ⟨Q,0 + v,none⟩ = some (.bool (sf[v]'(by have:=hI11.lf; omega))):=by
     have hvs : v < sf.length:=by have:=hI11.lf; omega
     rw [Nat.zero_add,World.ownsRow.cellAt hQ12 v (by omega)];simp [ip,hvs]
    have hf12 : w12.frozen? ⟨Q,0 + v,none⟩ = false:=by rw [Nat.zero_add]; exact hQ12.frozenAt v
    refine yT 0 af rfl (by kernel_rfl) hy rfl (rfl) ?_;refine yL 1 af rfl (by kernel_rfl) hy rfl rfl (hk12.cell (i:=3) rfl) ?_;refine yT 2 af rfl (by kernel_rfl) hy rfl (rfl) ?_;refine yT 3 af rfl (by kernel_rfl) hy rfl (rfl) ?_;refine yL 4 af rfl (by kernel_rfl) hy rfl rfl ((hx.keep hK12).c3) ?_;refine yT 5 af rfl (by kernel_rfl) hy rfl (rfl) ?_;refine yT 6 af rfl (by kernel_rfl) hy rfl (exI _ (anI (rfl) (anI (hfi) rfl))) ?_;refine yL 7 af rfl (by kernel_rfl) hy rfl rfl (hce) ?_;refine yT 8 af rfl (by kernel_rfl) hy rfl (exI _ (anI (rfl) (anI (hv) rfl))) ?_;refine bo 9 (by kernel_rfl) (ew 9 af rfl rfl rfl ?_);refine anI rfl (anI rfl (anI ⟨_,hc12⟩ (anI hf12 (anI (.inl (by kernel_rfl)) ?_))));exact iq (by kernel_rfl) ⟨rfl,rfl,rfl,rfl,rfl,trivial⟩ rfl
   have hput:=hI11.put hv hcd hrow hown11 hnew;rw [hfd,← hw,← hw13] at hput
   have hg13 : w12.grownBy w13 (some Q):=by
    have hd:=(World.ownsRow.stored (hQ12.drew) v (.bool fin[i])).2;rw [hw13,Nat.zero_add];exact ⟨hd.os,hd.tape,hd.output,hd.size,hd.block⟩
   exact ⟨_,_,_,hS,a6 hK12 hg13 (fun q hq=>by cases hq; exact hQlt.1),hO12.kept hg13 (jp hQ12 hO12 (by decide)),hk12.kept hg13 (gz hQ12 hk12 (by decide)),hput⟩
  rintro a w8 ⟨vs',sn',sf',hS,hK',hO',hk',hI'⟩;refine ai [(1,Vp M),(2,Vp N),(3,Vs O next.length cO),(6,Vp K),(7,Vi (i + 1 : Nat))] (· = w8) af hS ?_ (fun a w9 hS hw=>?_)
  ·repeat refine zX rfl ?_
   refine zN rfl (ck (by omega)) ?_
   repeat refine zX rfl ?_
   exact aj ⟨⟨rfl,rfl,rfl,rfl,rfl,trivial⟩,rfl⟩
  subst hw;exact ⟨next.length - (i + 1),_,by omega,⟨i + 1,vs',sn',sf',hlt,rfl,rfl,hK',hO',hk',hI'⟩,hS⟩
 rintro a w6 ⟨vs,sn,sf,hS,hK6,hk6,hI6⟩;clear hK hO hR9 hK5 hS0;obtain ⟨hsnl,hSm⟩:=hI6.end hC;have hC' : Cls L.toNat next fin cls sn.length:=by rw [hsnl]; exact hC
 obtain ⟨hShp,hlive,hdist,hal⟩:=aig hs' hC' hSm hcs0;rw [dh,d9 hz] at hShp hal hcs0;rw [Int.toNat_of_nonneg hL0] at hShp;have hcz:=hcrng cls[z] (List.getElem_mem hz)
 have hOM : OwnM wc.heap.size w6 sn sf (Vs P m m) (Vs Q m m):=by
  refine ⟨by rw [hI6.lf]; exact hI6.q,vs,by rw [hI6.lv,hsnl],by rw [hsnl]; exact hI6.p,fun v hv=>?_⟩;obtain ⟨j,h1,h2⟩:=hC.hit v (by omega);obtain ⟨_,g,cg,h5,h6⟩:=hI6.done v (by omega) ⟨j,h1,h2⟩;have h7:=hShp.rows v hv;refine ⟨_,h5,?_,fun x hx=>?_⟩
  ·rw [show sn.getD v [] = sn[v] by simp [List.getD_eq_getElem?_getD,hv]] at h6;rw [show sn[v].length = L.toNat by have:=h7.1; omega];exact h6
  ·obtain ⟨c,hc,rfl⟩:=List.mem_iff_getElem.1 hx
   have:=h7.2 c hc
   exact ⟨by omega,by omega⟩
 have hMa:=hOM.ma hm.L (show I64 cls[z] from ⟨by omega,by omega⟩)
 have hshp' : Shape (L.toNat : Int) cls[z] sn sf:=by rw [Int.toNat_of_nonneg hL0]; exact hShp
 refine wp_seq (bg (α:=Value × Value) (fun x=>[(1,Vp M),(2,Vp N),(6,Vp K),(11,x.1),(12,x.2)]) (fun x w'=>RowKit.Below w6.heap.size w6 w' ∧ TwoRows w6.heap.size w' x.1 x.2 (d7 cls[z] sn L.toNat).rows (d7 cls[z] sn L.toNat).place) af hS ?_ (fun x a w7 hS h7=>?_))
 ·refine zA ([Vi L,Vi cls[z],Vs P m m,Vs Q m m]) rfl rfl (⟨hk6.cell (i:=0) rfl,hk6.cell (i:=1) rfl,hk6.cell (i:=2) rfl,hk6.cell (i:=3) rfl,trivial⟩) ?_;refine zF rfl (ajl) (agq L cls[z] _ _ sn sf _ hMa hShp (by omega)) ?_;rintro e w7 ⟨vr,vp,rfl,h1,h2⟩;refine ⟨_,rfl,?_⟩
  repeat refine zX rfl ?_
  exact aj ⟨(vr,vp),⟨rfl,rfl,rfl,rfl,rfl,trivial⟩,h2,h1⟩
 obtain ⟨vr,vp⟩:=x;obtain ⟨hb7,hT'⟩:=h7;dsimp only at hS hT';have hFd:=qz hShp;obtain ⟨hcn,hal2⟩:=aa1 hShp hFd hlive hdist
 generalize d7 cls[z] sn L.toNat = f at hT' hFd hcn hal2
 have hfr0 : 0 < f.rows.length:=by
  have:=(hFd.first hcs0).1
  exact (List.getElem?_eq_some_iff.1 this).1
 rw [if_neg (by omega)] at hcn hal2;have hplen:=hFd.inn.ok.p;have hfcap:=hFd.inn.ok.cap
 have hrr : ∀ k (h : k < f.rows.length),∃ r : Nat,r < sn.length ∧ f.rows[k] = (r : Int):=fun k h=>by
  obtain ⟨a,b,_⟩:=hFd.inn.ok.r _ (List.getElem_mem h);exact ⟨f.rows[k].toNat,by omega,by omega⟩
 obtain ⟨R,cR,rfl⟩ : ∃ R cR,vr = Vs R f.rows.length cR:=by
  rcases hT'.a.2 with ⟨_,h⟩ | ⟨g,cap,cur,h,_⟩
  ·omega
  ·exact ⟨_,_,h⟩
 obtain ⟨S,cS,rfl⟩ : ∃ S cS,vp = Vs S f.place.length cS:=by
  rcases hT'.b.2 with ⟨_,h⟩ | ⟨g,cap,cur,h,_⟩
  ·omega
  ·exact ⟨_,_,h⟩
 have hK7:=ak hK6 hb7;have hk7:=hk6.keep hb7 hk6.lt;have hMa7:=hMa.keep hb7
 have hrI : ∀ x ∈ f.rows,I64 x:=fun x hx=>by
  obtain ⟨a,b,_⟩:=hFd.inn.ok.r x hx;exact ⟨by omega,by omega⟩
 have hslR : Sl w7 (Vs R f.rows.length cR) f.rows PInt:=(jn (P:=PInt) (l:=f.rows) hT'.a rfl (fun i hi=>⟨_,by simp [hi],rfl,hrI _ (List.getElem_mem hi)⟩)).1
 have hpl : ∀ t : Nat,t < f.place.length → -1 ≤ f.place.getD t 0 ∧ f.place.getD t 0 < f.rows.length:=fun t ht=>by
  refine ⟨hFd.inn.low t (by omega),?_⟩
  rcases Int.lt_or_le (f.place.getD t 0) 0 with h | h
  ·omega
  ·obtain ⟨j,hj,hj2⟩:=hFd.inn.of t (by omega) h
   have:=(List.getElem?_eq_some_iff.1 hj2).1
   omega
 obtain ⟨b3,hb3⟩ : ∃ b3,b3 = w7.heap.size:=⟨_,rfl⟩;refine wp_seq (ai [(1,Vp M),(2,Vp N),(6,Vp K),(11,Vs R f.rows.length cR),(12,Vs S f.place.length cS),(13,Vp b3)] (· = (w7.alloc (.cells #[Vi 0,Vi 0,.slice none 0 0,.slice none 0 0] 25)).setCells w7.heap.size 0 [Vi L,Vi 0,.slice none 0 0,.slice none 0 0]) af hS ?_ (fun a w8 hS hw=>?_))
 ·subst hb3
  repeat refine zX rfl ?_
  refine zL rfl ((hx.keep hK7).c0) ?_
  repeat refine zX rfl ?_
  refine zB rfl ?_;refine cj rfl rfl (anI rfl (anI rfl (anI (b0 (OwnB.new w7 [Vi 0,Vi 0,.slice none 0 0,.slice none 0 0] 25)) ?_)));exact aj ⟨⟨rfl,rfl,rfl,rfl,rfl,rfl,trivial⟩,rfl⟩
 obtain ⟨hb8,hC8⟩:=ri (base:=w7.heap.size) (w0:=w7) (L:=L) (s:=0) (fin:=[]) (ao w7 (.cells #[Vi 0,Vi 0,.slice none 0 0,.slice none 0 0] 25)) (Nat.le_refl _) (Nat.le_refl _) (OwnB.new w7 [Vi 0,Vi 0,.slice none 0 0,.slice none 0 0] 25) (World.ownsRow_nil _ _ _ _);rw [← hw] at hb8 hC8;rw [← hb3] at hC8;clear hw;have hb3' : w7.heap.size ≤ b3:=by omega
 refine wp_seq (cut (F:=fun a' w'=>St Tryz.f18.ntmps a' [(2,Vp N),(13,Vp b3)] ∧ RowKit.Below w7.heap.size w7 w' ∧ CopyI b3 w' b3 L 0 (f.rows.map (bj f.place sn L.toNat)) (bt f sf)) ?_ ?_)
 ·refine wp_seq (ai [(1,Vp M),(2,Vp N),(6,Vp K),(11,Vs R f.rows.length cR),(12,Vs S f.place.length cS),(13,Vp b3),(14,Vi 0)] (· = w8) af hS ?_ (fun a w9 hS hw=>?_))
  ·repeat refine zX rfl ?_
   exact aj ⟨⟨rfl,rfl,rfl,rfl,rfl,rfl,rfl,trivial⟩,rfl⟩
  subst hw
  refine wp_block (cz hS (fun g E wr=>∃ k : Nat,k ≤ f.rows.length ∧ g = f.rows.length - k ∧ E = [(1,Vp M),(2,Vp N),(6,Vp K),(11,Vs R f.rows.length cR),(12,Vs S f.place.length cS),(13,Vp b3),(14,Vi k)] ∧ RowKit.Below w7.heap.size w7 wr ∧ CopyI b3 wr b3 L 0 ((f.rows.take k).map (bj f.place sn L.toNat)) ((bt f sf).take k))
   f.rows.length ⟨0,Nat.zero_le _,rfl,rfl,hb8,by simpa using hC8⟩ ?_)
  clear hb8 hC8 hS;rintro g E wr a1 ⟨k,hk,rfl,rfl,hb,hCr⟩ hS;refine wp_seq (wp_seq (ai [(1,Vp M),(2,Vp N),(6,Vp K),(11,Vs R f.rows.length cR),(12,Vs S f.place.length cS),(13,Vp b3),(14,Vi k),(139,.bool (decide ((k : Int) < f.rows.length)))] (· = wr) af hS ?_ (fun a w10 hS hw=>?_)))
  ·repeat refine zX rfl ?_
   refine zC rfl (rfl) ?_;exact aj ⟨⟨rfl,rfl,rfl,rfl,rfl,rfl,rfl,rfl,trivial⟩,rfl⟩
  subst hw;refine cond hS rfl (fun hT=>?_) (fun hF=>?_)
  case refine_2=>
   refine wp_exit ?_
   repeat first|refine bf ?_|refine ba ?_|refine az rfl ?_
   obtain rfl : k = f.rows.length:=by have:=of_decide_eq_false hF; omega
   rw [List.take_length,List.take_of_length_le (by simp [bt])] at hCr;exact ⟨hS.sub ⟨rfl,rfl,trivial⟩,hb,hCr⟩
  have hlt : k < f.rows.length:=by have:=of_decide_eq_true hT; omega
  obtain ⟨r,hr,hrv⟩:=hrr k hlt;obtain ⟨Ln,hLn⟩ : ∃ Ln : Nat,L = (Ln : Int):=⟨L.toNat,by omega⟩;have hLb:=hm.L.2;refine wp_skip ?_;refine wp_seq (wp_block ?_);obtain ⟨G,hG⟩ : ∃ G,G = w10.heap.size:=⟨_,rfl⟩;refine wp_seq (ai [(1,Vp M),(2,Vp N),(6,Vp K),(11,Vs R f.rows.length cR),(12,Vs S f.place.length cS),(13,Vp b3),(14,Vi k),(15,Vs G L.toNat L.toNat)] (· = w10.alloc (.cells (madeCells #[Vi 0] L.toNat) 3)) af hS ?_ (fun a w11 hS hw=>?_))
  ·subst hG
   repeat refine zX rfl ?_
   refine zL rfl ((hx.keep (ak hK7 hb)).c0) ?_;rw [hLn,Int.toNat_natCast];refine zM (Ln) rfl rfl rfl rfl rfl ((by show 8 * _ ≤ _; omega)) ((by omega)) ?_
   repeat refine zX rfl ?_
   exact aj ⟨⟨rfl,rfl,rfl,rfl,rfl,rfl,rfl,rfl,trivial⟩,rfl⟩
  have hown:=fg w10 w10.heap.size 3 L.toNat (Vi 0) (Nat.le_refl _) (by omega);have hb11:=ao w10 (.cells (madeCells #[Vi 0] L.toNat) 3);rw [← hw,← hG] at hown;rw [← hw] at hb11;have hown : w11.ownsRow G 3 1 (Vs G L.toNat L.toNat) L.toNat (ints (List.replicate L.toNat 0)):=by simpa using hown
  clear hw
  refine wp_seq (cut (F:=fun a' w'=>St Tryz.f18.ntmps a' [(1,Vp M),(2,Vp N),(6,Vp K),(11,Vs R f.rows.length cR),(12,Vs S f.place.length cS),(13,Vp b3),(14,Vi k),(15,Vs G L.toNat L.toNat)] ∧ RowKit.Below w10.heap.size w10 w' ∧
    w'.ownsRow G 3 1 (Vs G L.toNat L.toNat) L.toNat (ints (bj f.place sn L.toNat f.rows[k]))) ?_ ?_)
  ·have hrow:=hShp.rows r hr;have hrl : sn[r].length = L.toNat:=by have:=hrow.1; omega
   refine wp_seq (ai [(1,Vp M),(2,Vp N),(6,Vp K),(11,Vs R f.rows.length cR),(12,Vs S f.place.length cS),(13,Vp b3),(14,Vi k),(15,Vs G L.toNat L.toNat),(16,Vi 0)] (· = w11) af hS ?_ (fun a w12 hS hw=>?_))
   ·repeat refine zX rfl ?_
    exact aj ⟨⟨rfl,rfl,rfl,rfl,rfl,rfl,rfl,rfl,rfl,trivial⟩,rfl⟩
   subst hw
   refine wp_block (cz hS (fun g E wr=>∃ (j : Nat) (row : List Int),j ≤ L.toNat ∧ g = L.toNat - j ∧ E = [(1,Vp M),(2,Vp N),(6,Vp K),(11,Vs R f.rows.length cR),(12,Vs S f.place.length cS),(13,Vp b3),(14,Vi k),(15,Vs G L.toNat L.toNat),(16,Vi j)] ∧
     RowKit.Below w10.heap.size w10 wr ∧ wr.ownsRow G 3 1 (Vs G L.toNat L.toNat) L.toNat (ints row) ∧ row.length = L.toNat ∧ ∀ c,c < j → row.getD c 0 = plcM f.place (tgtM sn r c))
    L.toNat ⟨0,_,Nat.zero_le _,rfl,rfl,hb11,hown,by simp,fun c hc=>by omega⟩ ?_)
   clear hb11 hown hS;rintro g E wr a1 ⟨j,row,hj',rfl,rfl,hb12,hown,hlen,hrow'⟩ hS;have hKr:=ak hb hb12;refine wp_seq (wp_seq (ai [(1,Vp M),(2,Vp N),(6,Vp K),(11,Vs R f.rows.length cR),(12,Vs S f.place.length cS),(13,Vp b3),(14,Vi k),(15,Vs G L.toNat L.toNat),(16,Vi j),(148,.bool (decide ((j : Int) < L)))] (· = wr) af hS ?_ (fun a w13 hS hw=>?_)))
   ·repeat refine zX rfl ?_
    refine zL rfl ((hx.keep (ak hK7 hKr)).c0) ?_;refine zC rfl (rfl) ?_;exact aj ⟨⟨rfl,rfl,rfl,rfl,rfl,rfl,rfl,rfl,rfl,rfl,trivial⟩,rfl⟩
   subst hw;refine cond hS rfl (fun hT=>?_) (fun hF=>?_)
   case refine_2=>
    refine wp_exit ?_
    repeat first|refine bf ?_|refine ba ?_|refine az rfl ?_
    obtain rfl : j = L.toNat:=by have:=of_decide_eq_false hF; omega
    have he : row = bj f.place sn L.toNat f.rows[k]:=by
     rw [hrv];refine List.ext_getElem (by rw [hlen,e7]) fun c h1 h2=>?_;rw [it]
     have:=hrow' c (by omega)
     rw [d9 h1] at this;exact this
    rw [he] at hown;exact ⟨hS.sub ⟨rfl,rfl,rfl,rfl,rfl,rfl,rfl,rfl,trivial⟩,hb12,hown⟩
   have hjL : j < L.toNat:=by have:=of_decide_eq_true hT; omega
   have hjr : j < sn[r].length:=by omega
   obtain ⟨t,ht⟩ : ∃ t,sn[r][j] = t:=⟨_,rfl⟩;have htr:=hrow.2 j hjr;rw [ht] at htr;have htg : tgtM sn r j = t:=by rw [pw hr hjr,ht]
   refine wp_skip ?_;refine wp_seq (wp_block ?_);refine wp_seq (ai [(1,Vp M),(2,Vp N),(6,Vp K),(11,Vs R f.rows.length cR),(12,Vs S f.place.length cS),(13,Vp b3),(14,Vi k),(15,Vs G L.toNat L.toNat),(16,Vi j)] (· = w13.setCell ⟨G,0 + j,none⟩ (Vi (-1))) af hS ?_ (fun a w14 hS hw=>?_))
   ·repeat refine zX rfl ?_
    refine zI rfl (rfl) (hjL) ?_;refine zS rfl rfl (iy hown (j:=j) (by omega) hlen.symm) (iv hown j) ?_;exact aj ⟨⟨rfl,rfl,rfl,rfl,rfl,rfl,rfl,rfl,rfl,trivial⟩,rfl⟩
   rw [Nat.zero_add] at hw;have hown13:=iu hown j (-1);have hb13:=a6 hb12 (hown.stored j (Vi (-1))).2 (fun q hq=>by cases hq; omega);rw [← hw] at hown13 hb13;clear hw hown hb12 hKr;have hlen13 : (row.set j (-1)).length = L.toNat:=by simp [hlen]
   have hrow13 : ∀ c,c < j → (row.set j (-1)).getD c 0 = plcM f.place (tgtM sn r c):=fun c hc=>by
    rw [← hrow' c hc];simp [List.getD_eq_getElem?_getD,List.getElem?_set_ne (show j ≠ c by omega)]
   have hat13 : (row.set j (-1)).getD j 0 = -1:=by simp [List.getD_eq_getElem?_getD,hlen,hjL]
   generalize row.set j (-1) = r2 at *
   have hKr:=ak hb hb13;refine wp_seq (b6 [(1,Vp M),(2,Vp N),(6,Vp K),(11,Vs R f.rows.length cR),(12,Vs S f.place.length cS),(13,Vp b3),(14,Vi k),(15,Vs G L.toNat L.toNat),(16,Vi j),(17,Vi t)] af dc (by kernel_rfl) hS ?_ (fun a w15 hS hw=>?_))
   ·obtain ⟨bn,on,cn,hvn,ar,cr,hc1,hc2⟩:=(hMa7.keep hKr).cell hr;obtain ⟨br,orr,rfl,hc3⟩:=hc2 j hjr;rw [ht] at hc3;have hrc:=(hslR.keep hKr (fun _ _ h=>h));obtain ⟨_,_,_,_,hv,r1,r2',r3,r4⟩:=hrc;obtain ⟨u,hu,rfl,-⟩:=r4 k hlt
    cases r1 hfr0
    cases hv
    rw [hrv] at hu
    cases hvn
    repeat refine qX rfl ?_
    refine qL rfl ((hk7.keep hKr hk7.lt).cell (i:=2) rfl) ?_
    repeat refine qX rfl ?_
    refine qI rfl (rfl) (hlt) ?_;refine qL rfl (hu) ?_;refine qI rfl (rfl) (hr) ?_;refine qL rfl (hc1) ?_
    repeat refine qX rfl ?_
    refine qI rfl (rfl) (hjr) ?_;refine qL rfl (hc3) ?_
    repeat refine qX rfl ?_
    exact fa ⟨rfl,rfl,rfl,rfl,rfl,rfl,rfl,rfl,rfl,rfl,trivial⟩
   have hb15:=ak hb13 hw;have hown15:=hown13.kept (et hw) (fw _);clear hw hown13 hb13 hKr;have hKr:=ak hb hb15;refine wp_seq (ai [(1,Vp M),(2,Vp N),(6,Vp K),(11,Vs R f.rows.length cR),(12,Vs S f.place.length cS),(13,Vp b3),(14,Vi k),(15,Vs G L.toNat L.toNat),(16,Vi j),(17,Vi t),(166,.bool (decide (0 ≤ t)))] (· = w15) af hS ?_ (fun a w16 hS hw=>?_))
   ·repeat refine zX rfl ?_
    refine zC rfl (rfl) ?_;exact aj ⟨⟨rfl,rfl,rfl,rfl,rfl,rfl,rfl,rfl,rfl,rfl,rfl,trivial⟩,rfl⟩
   subst hw
   refine cut (F:=fun a' w'=>∃ row : List Int,St Tryz.f18.ntmps a' [(1,Vp M),(2,Vp N),(6,Vp K),(11,Vs R f.rows.length cR),(12,Vs S f.place.length cS),(13,Vp b3),(14,Vi k),(15,Vs G L.toNat L.toNat),(16,Vi j)] ∧
     RowKit.Below w10.heap.size w10 w' ∧ w'.ownsRow G 3 1 (Vs G L.toNat L.toNat) L.toNat (ints row) ∧ row.length = L.toNat ∧ ∀ c,c < j + 1 → row.getD c 0 = plcM f.place (tgtM sn r c)) ?_ ?_
   ·refine cond hS rfl (fun hT=>?_) (fun hF=>?_)
    ·obtain ⟨tn,rfl⟩:=Int.eq_ofNat_of_zero_le (of_decide_eq_true hT);have htc : tn < f.place.length:=by omega
     have hcS : w16.cell? ⟨S,0 + tn,none⟩ = some (Vi f.place[tn]):=YtndldmojkpjgoaaGreatDoor.keep hKr (iy hT'.b htc rfl);refine ai [(1,Vp M),(2,Vp N),(6,Vp K),(11,Vs R f.rows.length cR),(12,Vs S f.place.length cS),(13,Vp b3),(14,Vi k),(15,Vs G L.toNat L.toNat),(16,Vi j)] (· = w16.setCell ⟨G,0 + j,none⟩ (Vi f.place[tn])) af hS ?_ (fun a w17 hS hw=>?_)
     ·repeat refine zX rfl ?_
      refine zI rfl (rfl) (htc) ?_;refine zL rfl (hcS) ?_;refine zI rfl (rfl) (hjL) ?_;refine zS rfl rfl (iy hown15 (j:=j) (by omega) hlen13.symm) (iv hown15 j) ?_;exact aj ⟨⟨rfl,rfl,rfl,rfl,rfl,rfl,rfl,rfl,rfl,trivial⟩,rfl⟩
     rw [Nat.zero_add] at hw;have hown17:=iu hown15 j f.place[tn];have hb17:=a6 hb15 (hown15.stored j (Vi f.place[tn])).2 (fun q hq=>by cases hq; omega);rw [← hw] at hown17 hb17;refine ⟨_,hS,hb17,hown17,by simp [hlen13],fun c hc=>?_⟩
     by_cases hck : c = j
     ·subst hck;rw [htg,ab0 htc];simp [List.getD_eq_getElem?_getD,hlen13,hjL]
     ·rw [← hrow13 c (by omega)];simp [List.getD_eq_getElem?_getD,List.getElem?_set_ne (fun e=>hck e.symm)]
    ·refine wp_skip ⟨r2,hS.sub ⟨rfl,rfl,rfl,rfl,rfl,rfl,rfl,rfl,rfl,trivial⟩,hb15,hown15,hlen13,fun c hc=>?_⟩
     by_cases hck : c = j
     ·subst hck;rw [hat13,htg,gj (by have:=of_decide_eq_false hF; omega)]
     ·exact hrow13 c (by omega)
   rintro a w17 ⟨row'',hS,hb17,hown17,hlen17,hrow17⟩;refine ay ?_;refine b4 ?_;refine ai [(1,Vp M),(2,Vp N),(6,Vp K),(11,Vs R f.rows.length cR),(12,Vs S f.place.length cS),(13,Vp b3),(14,Vi k),(15,Vs G L.toNat L.toNat),(16,Vi (j + 1 : Nat))] (· = w17) af hS ?_ (fun a w18 hS hw=>?_)
   ·repeat refine zX rfl ?_
    refine zN rfl (ck (by omega)) ?_
    repeat refine zX rfl ?_
    exact aj ⟨⟨rfl,rfl,rfl,rfl,rfl,rfl,rfl,rfl,rfl,trivial⟩,rfl⟩
   subst hw;exact ⟨L.toNat - (j + 1),_,by omega,⟨j + 1,row'',hjL,rfl,rfl,hb17,hown17,hlen17,hrow17⟩,hS⟩
  rintro a w12 ⟨hS,hb12,hown12⟩;have hGb : b3 ≤ G:=by have:=hb.size; omega
  have hC12:=hCr.below hb12;have hown12:=ez hown12 hGb;have hb':=ak hb hb12;clear hb11 hown hb12 hCr hb hG;obtain ⟨vn1,ve1,us,ho,hve,hvn,hlu,hus⟩:=hC12.mem;have hkl : ((f.rows.take k).map (bj f.place sn L.toNat)).length = k:=by simp; omega
  have hrenI : ∀ x ∈ bj f.place sn L.toNat f.rows[k],I64 x:=fun x hx=>by
   obtain ⟨c,hc,rfl⟩:=List.mem_iff_getElem.1 hx;rw [it hc]
   rcases Int.lt_or_le (tgtM sn f.rows[k] c) 0 with h | h
   ·rw [gj h]; exact ⟨by decide,by decide⟩
   ·obtain ⟨t,ht⟩:=Int.eq_ofNat_of_zero_le h;have hc' : c < L.toNat:=by rw [e7] at hc; exact hc
    have htr:=dm hShp f.rows[k] (by omega) (by omega) c hc';rw [ht] at htr;have htl : t < f.place.length:=by omega
    have:=hpl t htl
    rw [d9 htl] at this;rw [ht,ab0 htl];exact ⟨by omega,by omega⟩
  refine wp_seq (ai [(1,Vp M),(2,Vp N),(6,Vp K),(11,Vs R f.rows.length cR),(12,Vs S f.place.length cS),(13,Vp b3),(14,Vi k)] (fun w'=>RowKit.Below w7.heap.size w7 w' ∧ CopyI b3 w' b3 L 0 ((f.rows.take k).map (bj f.place sn L.toNat) ++ [bj f.place sn L.toNat f.rows[k]]) ((bt f sf).take k)) af hS ?_ (fun a w13 hS hw=>?_))
  ·obtain ⟨gn,nn,cn,hv⟩:=df hvn;subst hv
   repeat refine zX rfl ?_
   refine zL rfl (ho.cell (i:=2) rfl) ?_
   repeat refine zX rfl ?_
   refine b8 rfl rfl rfl ?_;refine exI [(0,Vs G L.toNat L.toNat)] (exI #[Vs G L.toNat L.toNat] (anI (anI rfl rfl) (anI (by decide) (anI (uh _ _ _ _) ?_))));have hy1:=ao w12 (.cells #[Vs G L.toNat L.toNat] 34)
   have ask : AppAsk (w12.alloc (.cells #[Vs G L.toNat L.toNat] 34)) ⟨34,.slice 3,1,24,.slice none 0 0⟩ (.slice gn nn cn) ((f.rows.take k).map (bj f.place sn L.toNat)).length us (Vs w12.heap.size 1 1) 1 [Vs G L.toNat L.toNat] b3:=
    ⟨hvn.alloc _,.inr ⟨_,0,_,rfl,ax rfl,trivial⟩,rfl,(by simp [Value.oneCell']),(by rw [hkl]; omega),(by rw [hkl]; show (k + 1) * 24 ≤ _; omega),by have:=hy1.size; have:=ho.lt; omega⟩
   refine b8 rfl rfl rfl ?_;refine exI _ (exI _ (exI _ (exI _ (exI _ (anI (ask) (anI (fun _ h=>h.symm) (anI (by decide) ?_)))))));rintro v' w4 hown4 hgr - -;obtain ⟨g4,n4,c4,hv4⟩:=df hown4;subst hv4;have hown12' : w12.ownsRow b3 3 1 (Vs G L.toNat L.toNat) (bj f.place sn L.toNat f.rows[k]).length ((bj f.place sn L.toNat f.rows[k]).map (Value.int .i64)):=by rw [e7]; exact hown12
   obtain ⟨ho4,hC4⟩:=CopyI.add_row hC12.b ho hve hvn hlu hus hown12' hrenI hgr hown4
   repeat refine zX rfl ?_
   refine zS rfl rfl (ho4.cell (i:=2) rfl) (ho4.free 2) ?_;refine aj ⟨⟨rfl,rfl,rfl,rfl,rfl,rfl,rfl,trivial⟩,?_,hC4⟩;have e1:=a6 (ak hb' hy1) hgr (fun q hq=>by have:=(hvn.lt q hq).1; omega);exact a6 e1 (jc _ b3 2 _) (fun q hq=>by cases hq; exact hb3')
  obtain ⟨hb13,hC13⟩:=hw;have hfl : ((bt f sf).take k).length ≤ 100000000:=by simp [bt]; omega
  clear hC12 hown12 hb' ho hve hvn hus hlu
  have hqc : ∀ j (h : j < sf.length),w13.cell? ⟨Q,0 + j,none⟩ = some (.bool sf[j]):=fun j h=>by
   obtain ⟨b,o,ce,hv,hc⟩:=(hMa7.keep hb13).end h
   cases hv
   exact hc
  refine ac3 (k:=k) (r:=r) hb13 hb3 (hk7.keep hb13 hk7.lt) (.inr hqc) (hslR.keep hb13 (fun _ _ h=>h)) rfl hlt hrv (by omega) hI6.lf hC13 hb3' hfl (by rfl) hS (fun a w14 hS h14=>?_);refine ay ?_;refine b4 ?_;refine ai [(1,Vp M),(2,Vp N),(6,Vp K),(11,Vs R f.rows.length cR),(12,Vs S f.place.length cS),(13,Vp b3),(14,Vi (k + 1 : Nat))] (· = w14) af hS ?_ (fun a w15 hS hw=>?_)
  ·repeat refine zX rfl ?_
   refine zN rfl (ck (by omega)) ?_
   repeat refine zX rfl ?_
   exact aj ⟨⟨rfl,rfl,rfl,rfl,rfl,rfl,rfl,trivial⟩,rfl⟩
  subst hw;refine ⟨f.rows.length - (k + 1),_,by omega,⟨k + 1,hlt,rfl,rfl,h14.1,?_⟩,hS⟩
  have e1 : (f.rows.take (k + 1)).map (bj f.place sn L.toNat) = (f.rows.take k).map (bj f.place sn L.toNat) ++ [bj f.place sn L.toNat f.rows[k]]:=by
   rw [List.take_succ_eq_append_getElem hlt,List.map_append]; rfl
  have e2 : (bt f sf).take (k + 1) = (bt f sf).take k ++ [sf.getD r false]:=by
   rw [List.take_succ_eq_append_getElem (by simpa [bt] using hlt)];simp [bt,hrv]
  rw [e1,e2];exact h14.2
 rintro a w9 ⟨hS,hb9,hC9⟩;obtain ⟨vn',ve',us,ho,hve,hvn,hlu,hus⟩:=hC9.mem;have hBw:=ak hB (ak hK7 hb9);have hoN' : OwnB w9 N 25 [Vi 0,Vi 0,.slice none 0 0,.slice none 0 0]:=hoN.keep (ak hK7 hb9) hNc;refine wp_seq (ai [(2,Vp N)] (· = w9.setCells N 0 [Vi L,Vi 0,vn',ve']) af hS ?_ (fun a w10 hS hw=>?_))
 ·refine zA ([Vi L,Vi 0,vn',ve']) rfl rfl (⟨ho.cell (i:=0) rfl,ho.cell (i:=1) rfl,ho.cell (i:=2) rfl,ho.cell (i:=3) rfl,trivial⟩) ?_;refine cj rfl rfl (anI rfl (anI ?_ (anI (b0 hoN') ?_)))
  ·obtain ⟨_,_,_,rfl⟩:=df hve;obtain ⟨_,_,_,rfl⟩:=df hvn;rfl
  exact aj ⟨⟨rfl,trivial⟩,rfl⟩
 have hg:=bz N [Vi L,Vi 0,vn',ve'] 0 w9;have hnb : ∀ {e q : Nat} {v : Value} {xs : List Value},w9.ownsRow b3 e 1 v q xs → e ≠ 25 → v.ownBlock = none ∨ v.ownBlock ≠ some N:=fun h he=>.inr (fun hh=>gz h hoN' he hh.symm);have hbase : w.heap.size ≤ b3:=by have:=(ak hB hK7).size; omega
 have hoF : OwnB w10 N 25 [Vi L,Vi 0,vn',ve']:=by rw [hw]; exact hoN'.sets rfl
 have hg : w9.grownBy w10 (some N):=by rw [hw]; exact hg
 have hm10 : OwnM w.heap.size w10 (f.rows.map (bj f.place sn L.toNat)) (bt f sf) vn' ve':=
  ⟨ez (hve.kept hg (hnb hve (by decide))) hbase,us,hlu,ez (hvn.kept hg (hnb hvn (by decide))) hbase,fun i hi=>by
   obtain ⟨u,h1,h2,h3⟩:=hus i hi;exact ⟨u,h1,ez (h2.kept hg (hnb h2 (by decide))) hbase,h3⟩⟩
 refine wp_ret ?_
 repeat first|refine a8 ?_|refine am ?_
 refine wl af hS rfl rfl rfl rfl (o:=0) (vs:=[Vi L,Vi 0,vn',ve']) ⟨hoF.cell (i:=0) rfl,hoF.cell (i:=1) rfl,hoF.cell (i:=2) rfl,hoF.cell (i:=3) rfl,trivial⟩ rfl ⟨0,vn',ve',_,_,rfl,hm10,?_,hcn,?_,?_⟩
 ·exact a6 hBw hg (fun q hq=>by cases hq; exact hNw)
 ·exact hal2.trans hal
 ·simp; omega
end
section
open Go Sym
def aaf (L1 s1 : Int) (n1 : List (List Int)) (f1 : List Bool) (L2 s2 : Int) (n2 : List (List Int)) (f2 : List Bool) : Bool:=decide (L1 = L2 ∧ s1 = s2 ∧ n1 = n2 ∧ f1 = f2)
theorem xe {α : Type} (d : α) {l k : List α} (hl : l.length = k.length) (h : ∀ j,j < l.length → l.getD j d = k.getD j d) : l = k:=
 List.ext_getElem hl fun j j1 j2=>by
  have:=h j j1
  simpa [List.getD_eq_getElem?_getD,j1,j2] using this
theorem ae4 {w : World} {v : Value} {l : List Bool} (h : Sl w v l je) {i : Nat} (hi : i < l.length) : ∃ b o cn,v = .slice (some ⟨b,o,none⟩) l.length cn ∧ w.cell? ⟨b,o + i,none⟩ = some (.bool l[i]):=by
 obtain ⟨an,bn,on,cn,rfl,m1,m2,m3,m4⟩:=h;obtain rfl:=m1 (by omega);obtain ⟨u,hu,rfl⟩:=m4 i hi;exact ⟨bn,on,cn,rfl,hu⟩
set_option maxHeartbeats 1000000 in
theorem aik (L1 s1 L2 s2 : Int) (vn1 ve1 vn2 ve2 : Value) (n1 n2 : List (List Int)) (f1 f2 : List Bool) (w : World) (hm : Ma w L1 s1 n1 f1 vn1 ve1) (hm2 : Ma w L2 s2 n2 f2 vn2 ve2) :
  Calls Tryz.prog 9 #[.agg #[Vi L1,Vi s1,vn1,ve1],.agg #[Vi L2,Vi s2,vn2,ve2]] w fun e w'=>e = .returned (.bool (aaf L1 s1 n1 f1 L2 s2 n2 f2)) ∧ RowKit.Below w.heap.size w w':=by
 refine Sym.c8 (args:=[.agg #[Vi L1,Vi s1,vn1,ve1],.agg #[Vi L2,Vi s2,vn2,ve2]]) Tryz.func9 rfl rfl rfl (fun a0 hS0=>?_);obtain ⟨N,hN⟩ : ∃ N,N = (w.alloc (.cells #[Vi L1,Vi s1,vn1,ve1] 25)).heap.size:=⟨_,rfl⟩;obtain ⟨M,hM⟩ : ∃ M,M = w.heap.size:=⟨_,rfl⟩;refine wp_seq (ai [(2,Vp M),(3,Vp N)] (· = (w.alloc (.cells #[Vi L1,Vi s1,vn1,ve1] 25)).alloc (.cells #[Vi L2,Vi s2,vn2,ve2] 25)) af hS0 ?_ (fun a wc hS hw=>?_))
 ·subst hN hM;refine zB rfl ?_;refine zB rfl ?_
  repeat refine zX rfl ?_
  exact aj ⟨⟨rfl,rfl,trivial⟩,rfl⟩
 have hB1:=ao w (.cells #[Vi L1,Vi s1,vn1,ve1] 25);have hB2:=ao (w.alloc (.cells #[Vi L1,Vi s1,vn1,ve1] 25)) (.cells #[Vi L2,Vi s2,vn2,ve2] 25);rw [← hw] at hB2;have hx : Box wc M L1 s1 vn1 ve1:=by rw [hM]; exact (Box.new w L1 s1 vn1 ve1 25).keep hB2
 have hy : Box wc N L2 s2 vn2 ve2:=by rw [hw,hN]; exact Box.new _ _ _ _ _ _
 have hB:=ak hB1 hB2;clear hw hB1 hB2 hN hM;replace hm:=hm.keep hB;replace hm2:=hm2.keep hB;obtain ⟨an1,cn1,hvn1⟩:=hm.n.len;obtain ⟨ae1,ce1,hve1⟩:=hm.e.len;obtain ⟨an2,cn2,hvn2⟩:=hm2.n.len;obtain ⟨ae2,ce2,hve2⟩:=hm2.e.len;have hb1:=hm.n.lt;have hb2:=hm.e.lt;obtain ⟨b37,hb37⟩ : ∃ b,(decide (L1 ≠ L2) || (decide (s1 ≠ s2) || (decide ((n1.length : Int) ≠ n2.length) || decide ((f1.length : Int) ≠ f2.length)))) = b:=⟨_,rfl⟩;refine wp_seq (wp_seq (ai [(2,Vp M),(3,Vp N),(37,.bool b37)] (· = wc) af hS ?_ (fun a w1 hS hw=>?_)))
 ·repeat refine zX rfl ?_
  refine zL rfl (hx.c0) ?_
  repeat refine zX rfl ?_
  refine zL rfl (hy.c0) ?_
  cases e1 : decide (L1 ≠ L2)
  case true=>
   rw [e1,Bool.true_or] at hb37; subst hb37;refine zC rfl (e1) ?_
   repeat refine zX rfl ?_
   exact aj ⟨⟨rfl,rfl,rfl,trivial⟩,rfl⟩
  rw [e1,Bool.false_or] at hb37;refine zC rfl (e1) ?_
  repeat refine zX rfl ?_
  refine zL rfl (hx.c1) ?_
  repeat refine zX rfl ?_
  refine zL rfl (hy.c1) ?_
  cases e2 : decide (s1 ≠ s2)
  case true=>
   rw [e2,Bool.true_or] at hb37; subst hb37;refine zC rfl (e2) ?_
   repeat refine zX rfl ?_
   exact aj ⟨⟨rfl,rfl,rfl,trivial⟩,rfl⟩
  rw [e2,Bool.false_or] at hb37;refine zC rfl (e2) ?_
  repeat refine zX rfl ?_
  refine zL rfl (hvn1 ▸ hx.c2) ?_
  repeat refine zX rfl ?_
  refine zL rfl (hvn2 ▸ hy.c2) ?_
  repeat refine zX rfl ?_
  cases e3 : decide ((n1.length : Int) ≠ n2.length)
  case true=>
   rw [e3,Bool.true_or] at hb37; subst hb37;refine zC rfl (e3) ?_
   repeat refine zX rfl ?_
   exact aj ⟨⟨rfl,rfl,rfl,trivial⟩,rfl⟩
  rw [e3,Bool.false_or] at hb37;refine zC rfl (e3) ?_
  repeat refine zX rfl ?_
  refine zL rfl (hve1 ▸ hx.c3) ?_
  repeat refine zX rfl ?_
  refine zL rfl (hve2 ▸ hy.c3) ?_
  repeat refine zX rfl ?_
  refine zC rfl (hb37) ?_
  repeat refine zX rfl ?_
  exact aj ⟨⟨rfl,rfl,rfl,trivial⟩,rfl⟩
 subst hw;refine cond hS rfl (fun hT=>?_) (fun hF=>?_)
 ·refine wp_seq (ai [(4,.bool false)] (· = w1) af hS ?_ (fun a w2 hS hw=>?_))
  ·repeat refine zX rfl ?_
   exact aj ⟨⟨rfl,trivial⟩,rfl⟩
  subst hw;refine wp_ret ?_
  repeat first|refine a8 ?_|refine am ?_
  refine ret1 hS rfl rfl ⟨?_,hB⟩;rw [aaf,decide_eq_false];rintro ⟨rfl,rfl,rfl,rfl⟩;rw [hT] at hb37;simp at hb37
 rw [hF] at hb37;simp only [Bool.or_eq_false_iff,decide_eq_false_iff_not,ne_eq,Decidable.not_not] at hb37;obtain ⟨rfl,rfl,hln,hlf⟩:=hb37;have hln : n1.length = n2.length:=by omega
 have hlf : f1.length = f2.length:=by omega
 refine wp_skip ?_;refine wp_seq (wp_seq (ai [(2,Vp M),(3,Vp N),(5,Vi 0)] (· = w1) af hS ?_ (fun a w2 hS hw=>?_)))
 ·repeat refine zX rfl ?_
  exact aj ⟨⟨rfl,rfl,rfl,trivial⟩,rfl⟩
 subst hw
 refine wp_block (cz hS (fun g E wr=>∃ i : Nat,i ≤ n1.length ∧ g = n1.length - i ∧ E = [(2,Vp M),(3,Vp N),(5,Vi i)] ∧ RowKit.Below w2.heap.size w2 wr ∧ ∀ j,j < i → n1.getD j [] = n2.getD j [])
  n1.length ⟨0,Nat.zero_le _,rfl,rfl,RowKit.Below.refl _ _,fun j hj=>by omega⟩ ?_)
 rintro g E wr a1 ⟨i,hi,rfl,rfl,hK,hgo⟩ hS;have hxK:=hx.keep hK;have hyK:=hy.keep hK;have hmK:=hm.keep hK;have hm2K:=hm2.keep hK;refine wp_seq (wp_seq (ai [(2,Vp M),(3,Vp N),(5,Vi i),(42,.bool (decide ((i : Int) < n1.length)))] (· = wr) af hS ?_ (fun a w3 hS hw=>?_)))
 ·repeat refine zX rfl ?_
  refine zL rfl (hvn1 ▸ hxK.c2) ?_
  repeat refine zX rfl ?_
  refine zC rfl (rfl) ?_;exact aj ⟨⟨rfl,rfl,rfl,rfl,trivial⟩,rfl⟩
 subst hw;refine cond hS rfl (fun hT=>?_) (fun hF=>?_)
 case refine_2=>
  refine wp_exit ?_
  repeat first|refine bf ?_|refine ba ?_|refine az rfl ?_
  have hnn : n1 = n2:=xe [] hln fun j hj=>hgo j (by have:=of_decide_eq_false hF; omega);clear hgo;refine wp_seq (wp_seq (ai [(2,Vp M),(3,Vp N),(7,Vi 0)] (· = w3) af hS ?_ (fun a w4 hS hw=>?_)))
  ·repeat refine zX rfl ?_
   exact aj ⟨⟨rfl,rfl,rfl,trivial⟩,rfl⟩
  subst hw
  refine wp_block (cz hS (fun g E wr=>∃ i : Nat,i ≤ f1.length ∧ g = f1.length - i ∧ E = [(2,Vp M),(3,Vp N),(7,Vi i)] ∧ RowKit.Below w4.heap.size w4 wr ∧ ∀ j,j < i → f1.getD j false = f2.getD j false)
   f1.length ⟨0,Nat.zero_le _,rfl,rfl,RowKit.Below.refl _ _,fun j hj=>by omega⟩ ?_)
  rintro g E wr a1 ⟨k,hk,rfl,rfl,hK2,hgo⟩ hS;have hxK:=hxK.keep hK2;have hyK:=hyK.keep hK2;have hmK:=hmK.keep hK2;have hm2K:=hm2K.keep hK2;refine wp_seq (wp_seq (ai [(2,Vp M),(3,Vp N),(7,Vi k),(89,.bool (decide ((k : Int) < f1.length)))] (· = wr) af hS ?_ (fun a w5 hS hw=>?_)))
  ·repeat refine zX rfl ?_
   refine zL rfl (hve1 ▸ hxK.c3) ?_
   repeat refine zX rfl ?_
   refine zC rfl (rfl) ?_;exact aj ⟨⟨rfl,rfl,rfl,rfl,trivial⟩,rfl⟩
  subst hw;refine cond hS rfl (fun hT=>?_) (fun hF=>?_)
  case refine_2=>
   refine wp_exit ?_
   repeat first|refine bf ?_|refine ba ?_|refine az rfl ?_
   refine wp_seq (ai [(4,.bool true)] (· = w5) af hS ?_ (fun a w6 hS hw=>?_))
   ·repeat refine zX rfl ?_
    exact aj ⟨⟨rfl,trivial⟩,rfl⟩
   subst hw;have hff : f1 = f2:=xe false hlf fun j hj=>hgo j (by have:=of_decide_eq_false hF; omega);refine wp_ret ?_
   repeat first|refine a8 ?_|refine am ?_
   exact ret1 hS rfl rfl ⟨by rw [aaf,decide_eq_true ⟨rfl,rfl,hnn,hff⟩],ak (ak hB hK) hK2⟩
  have hlt : k < f1.length:=by have:=of_decide_eq_true hT; omega
  have hlt2 : k < f2.length:=by omega
  obtain ⟨p1,q1,r1,e1,u1⟩:=ae4 hmK.e hlt;obtain ⟨p2,q2,r2,e2,u2⟩:=ae4 hm2K.e hlt2;refine wp_skip ?_;refine wp_seq (wp_block ?_);refine wp_seq (b6 [(2,Vp M),(3,Vp N),(7,Vi k),(102,.bool (f1[k] != f2[k]))] af dc (by kernel_rfl) hS ?_ (fun a w6 hS hw=>?_))
  ·repeat refine qX rfl ?_
   refine qL rfl (e1 ▸ hxK.c3) ?_
   repeat refine qX rfl ?_
   refine qI rfl (rfl) (hlt) ?_;refine qL rfl (u1) ?_
   repeat refine qX rfl ?_
   refine qL rfl (e2 ▸ hyK.c3) ?_
   repeat refine qX rfl ?_
   refine qI rfl (rfl) (hlt2) ?_;refine qL rfl (u2) ?_;refine qC rfl (rfl) ?_;exact fa ⟨rfl,rfl,rfl,rfl,trivial⟩
  have hg1 : f1.getD k false = f1[k]:=d9 hlt;have hg2 : f2.getD k false = f2[k]:=d9 hlt2;refine cond hS rfl (fun hT=>?_) (fun hF=>?_)
  ·refine wp_seq (ai [(4,.bool false)] (· = w6) af hS ?_ (fun a w7 hS hw7=>?_))
   ·repeat refine zX rfl ?_
    exact aj ⟨⟨rfl,trivial⟩,rfl⟩
   subst hw7;refine wp_ret ?_
   repeat first|refine a8 ?_|refine am ?_
   refine ret1 hS rfl rfl ⟨?_,ak (ak (ak hB hK) hK2) hw⟩;rw [aaf,decide_eq_false];rintro ⟨_,_,_,rfl⟩;rw [bne_self_eq_false] at hT
   cases hT
  refine wp_skip ?_;refine ay ?_;refine b4 ?_;refine ai [(2,Vp M),(3,Vp N),(7,Vi (k + 1 : Nat))] (· = w6) af hS ?_ (fun a w7 hS hw7=>?_)
  ·repeat refine zX rfl ?_
   refine zN rfl (ck (by omega)) ?_
   repeat refine zX rfl ?_
   exact aj ⟨⟨rfl,rfl,rfl,trivial⟩,rfl⟩
  subst hw7;refine ⟨f1.length - (k + 1),_,by omega,⟨k + 1,hlt,rfl,rfl,ak hK2 hw,fun j hj=>?_⟩,hS⟩
  rcases Nat.lt_or_ge j k with h | h
  ·exact hgo j h
  ·obtain rfl : j = k:=by omega
   rw [hg1,hg2]; simpa using hF
 have hlt : i < n1.length:=by have:=of_decide_eq_true hT; omega
 have hlt2 : i < n2.length:=by omega
 obtain ⟨p1,q1,r1,e1,x1,z1,u1,k1⟩:=hmK.cell hlt;obtain ⟨p2,q2,r2,e2,x2,z2,u2,k2⟩:=hm2K.cell hlt2;have hg1 : n1.getD i [] = n1[i]:=d9 hlt;have hg2 : n2.getD i [] = n2[i]:=d9 hlt2;refine wp_skip ?_;refine wp_seq (wp_block ?_);refine wp_seq (wp_seq (b6 [(2,Vp M),(3,Vp N),(5,Vi i),(57,.bool (decide ((n1[i].length : Int) ≠ n2[i].length)))] af dc (by kernel_rfl) hS ?_ (fun a w4 hS hw=>?_)))
 ·repeat refine qX rfl ?_
  refine qL rfl (e1 ▸ hxK.c2) ?_
  repeat refine qX rfl ?_
  refine qI rfl (rfl) (hlt) ?_;refine qL rfl (u1) ?_
  repeat refine qX rfl ?_
  refine qL rfl (e2 ▸ hyK.c2) ?_
  repeat refine qX rfl ?_
  refine qI rfl (rfl) (hlt2) ?_;refine qL rfl (u2) ?_
  repeat refine qX rfl ?_
  refine qC rfl (rfl) ?_;exact fa ⟨rfl,rfl,rfl,rfl,trivial⟩
 replace hK:=ak hK hw;replace hxK:=hxK.keep hw;replace hyK:=hyK.keep hw;replace hmK:=hmK.keep hw;replace hm2K:=hm2K.keep hw;clear hw u1 k1 u2 k2;refine cond hS rfl (fun hT=>?_) (fun hF=>?_)
 ·refine wp_seq (ai [(4,.bool false)] (· = w4) af hS ?_ (fun a w5 hS hw=>?_))
  ·repeat refine zX rfl ?_
   exact aj ⟨⟨rfl,trivial⟩,rfl⟩
  subst hw;refine wp_ret ?_
  repeat first|refine a8 ?_|refine am ?_
  refine ret1 hS rfl rfl ⟨?_,ak hB hK⟩;rw [aaf,decide_eq_false];rintro ⟨_,_,rfl,_⟩;exact (of_decide_eq_true hT) rfl
 have hlr : n1[i].length = n2[i].length:=by have:=of_decide_eq_false hF; omega
 have hrb : n1[i].length ≤ 9223372036854775807:=by
  obtain ⟨_,_,_,_,_,_,_,_,g4⟩:=hmK.n;obtain ⟨_,_,g5,_⟩:=g4 i hlt;exact g5.lt
 refine wp_skip ?_;refine wp_seq (ai [(2,Vp M),(3,Vp N),(5,Vi i),(6,Vi 0)] (· = w4) af hS ?_ (fun a w5 hS hw=>?_))
 ·repeat refine zX rfl ?_
  exact aj ⟨⟨rfl,rfl,rfl,rfl,trivial⟩,rfl⟩
 subst hw
 refine wp_block (cz hS (fun g E wr=>∃ c : Nat,c ≤ n1[i].length ∧ g = n1[i].length - c ∧ E = [(2,Vp M),(3,Vp N),(5,Vi i),(6,Vi c)] ∧ RowKit.Below w5.heap.size w5 wr ∧ ∀ j,j < c → n1[i].getD j 0 = n2[i].getD j 0)
  n1[i].length ⟨0,Nat.zero_le _,rfl,rfl,RowKit.Below.refl _ _,fun j hj=>by omega⟩ ?_)
 rintro g E wr a1 ⟨c,hc,rfl,rfl,hK2,hgo2⟩ hS;have hxC:=hxK.keep hK2;have hyC:=hyK.keep hK2;obtain ⟨p1,q1,r1,e1,x1,z1,u1,k1⟩:=(hmK.keep hK2).cell hlt;obtain ⟨p2,q2,r2,e2,x2,z2,u2,k2⟩:=(hm2K.keep hK2).cell hlt2;refine wp_seq (wp_seq (ai [(2,Vp M),(3,Vp N),(5,Vi i),(6,Vi c),(65,.bool (decide ((c : Int) < n1[i].length)))] (· = wr) af hS ?_ (fun a w6 hS hw=>?_)))
 ·repeat refine zX rfl ?_
  refine zL rfl (e1 ▸ hxC.c2) ?_
  repeat refine zX rfl ?_
  refine zI rfl (rfl) (hlt) ?_;refine zL rfl (u1) ?_
  repeat refine zX rfl ?_
  refine zC rfl (rfl) ?_;exact aj ⟨⟨rfl,rfl,rfl,rfl,rfl,trivial⟩,rfl⟩
 subst hw;refine cond hS rfl (fun hT=>?_) (fun hF=>?_)
 case refine_2=>
  refine wp_exit ?_
  repeat first|refine bf ?_|refine ba ?_|refine az rfl ?_
  have hrow : n1[i] = n2[i]:=xe 0 hlr fun j hj=>hgo2 j (by have:=of_decide_eq_false hF; omega);refine ay ?_;refine b4 ?_;refine ai [(2,Vp M),(3,Vp N),(5,Vi (i + 1 : Nat))] (· = w6) af hS ?_ (fun a w7 hS hw7=>?_)
  ·repeat refine zX rfl ?_
   refine zN rfl (ck (by omega)) ?_
   repeat refine zX rfl ?_
   exact aj ⟨⟨rfl,rfl,rfl,trivial⟩,rfl⟩
  subst hw7;refine ⟨n1.length - (i + 1),_,by omega,⟨i + 1,hlt,rfl,rfl,ak hK hK2,fun j hj=>?_⟩,hS⟩
  rcases Nat.lt_or_ge j i with h | h
  ·exact hgo j h
  ·obtain rfl : j = i:=by omega
   rw [hg1,hg2,hrow]
 have hcl : c < n1[i].length:=by have:=of_decide_eq_true hT; omega
 have hcl2 : c < n2[i].length:=by omega
 obtain ⟨bb1,oo1,rfl,kk1⟩:=k1 c hcl;obtain ⟨bb2,oo2,rfl,kk2⟩:=k2 c hcl2;refine wp_skip ?_;refine wp_seq (wp_block ?_);refine wp_seq (b6 [(2,Vp M),(3,Vp N),(5,Vi i),(6,Vi c),(84,.bool (decide (n1[i][c] ≠ n2[i][c])))] af dc (by kernel_rfl) hS ?_ (fun a w7 hS hw=>?_))
 ·repeat refine qX rfl ?_
  refine qL rfl (e1 ▸ hxC.c2) ?_
  repeat refine qX rfl ?_
  refine qI rfl (rfl) (hlt) ?_;refine qL rfl (u1) ?_
  repeat refine qX rfl ?_
  refine qI rfl (rfl) (hcl) ?_;refine qL rfl (kk1) ?_
  repeat refine qX rfl ?_
  refine qL rfl (e2 ▸ hyC.c2) ?_
  repeat refine qX rfl ?_
  refine qI rfl (rfl) (hlt2) ?_;refine qL rfl (u2) ?_
  repeat refine qX rfl ?_
  refine qI rfl (rfl) (hcl2) ?_;refine qL rfl (kk2) ?_;refine qC rfl (rfl) ?_;exact fa ⟨rfl,rfl,rfl,rfl,rfl,trivial⟩
 refine cond hS rfl (fun hT=>?_) (fun hF=>?_)
 ·refine wp_seq (ai [(4,.bool false)] (· = w7) af hS ?_ (fun a w8 hS hw8=>?_))
  ·repeat refine zX rfl ?_
   exact aj ⟨⟨rfl,trivial⟩,rfl⟩
  subst hw8;refine wp_ret ?_
  repeat first|refine a8 ?_|refine am ?_
  refine ret1 hS rfl rfl ⟨?_,ak (ak (ak hB hK) hK2) hw⟩;rw [aaf,decide_eq_false];rintro ⟨_,_,rfl,_⟩;exact (of_decide_eq_true hT) rfl
 refine wp_skip ?_;refine ay ?_;refine b4 ?_;refine ai [(2,Vp M),(3,Vp N),(5,Vi i),(6,Vi (c + 1 : Nat))] (· = w7) af hS ?_ (fun a w8 hS hw8=>?_)
 ·repeat refine zX rfl ?_
  refine zN rfl (ck (by omega)) ?_
  repeat refine zX rfl ?_
  exact aj ⟨⟨rfl,rfl,rfl,rfl,trivial⟩,rfl⟩
 subst hw8;refine ⟨n1[i].length - (c + 1),_,by omega,⟨c + 1,hcl,rfl,rfl,ak hK2 hw,fun j hj=>?_⟩,hS⟩
 rcases Nat.lt_or_ge j c with h | h
 ·exact hgo2 j h
 ·obtain rfl : j = c:=by omega
  rw [d9 hcl,d9 hcl2];exact Decidable.not_not.1 (of_decide_eq_false hF)
end
section
open Go Sym
end
section
open Go Sym
theorem en_Same : bk Tryz.prog 9 = true:=by kernel_rfl
end
section
end
section
theorem nt : ∀ {r : List Int} {c c' : Nat},ik c r = some c' → ∀ j,c ≤ j → j < c' → (j : Int) ∈ r
 | [],c,c',h,j,h1,h2=>by
   simp only [ik,Option.some.injEq] at h;omega
 | t :: r,c,c',h,j,h1,h2=>by
   unfold ik at h
   split at h
   ·exact List.mem_cons_of_mem _ (nt h j h1 h2)
   ·split at h
    ·rename_i ht
     by_cases e : j = c
     ·rw [e,← ht]; exact List.mem_cons_self ..
     ·exact List.mem_cons_of_mem _ (nt h j (by omega) h2)
    ·cases h
theorem pz {L s : Int} {next : List (List Int)} {fin : List Bool} (hs : Shape L s next fin) : ∀ (rs : List (List Int)) (c i m : Nat),rs = next.drop i → scan c i rs = some m →
  (∀ j : Nat,j < c → ∃ u,Word L.toNat u ∧ runM next 0 u = (j : Int)) → ∀ j : Nat,j < m → ∃ u,Word L.toNat u ∧ runM next 0 u = (j : Int)
 | [],c,i,m,_,h,hr,j,hj=>by
   simp only [scan,Option.some.injEq] at h;exact hr j (by omega)
 | r :: rs,c,i,m,e,h,hr,j,hj=>by
   have hi : i < next.length:=by
    refine Nat.lt_of_not_le fun hle=>?_;rw [List.drop_of_length_le hle] at e
    cases e
   rw [List.drop_eq_getElem_cons hi,List.cons.injEq] at e;obtain ⟨rfl,rfl⟩:=e;unfold scan at h
   split at h
   ·rename_i hic
    split at h
    ·rename_i c' hc';refine pz hs _ c' (i + 1) m rfl h (fun q hq=>?_) j hj
     rcases Nat.lt_or_ge q c with h1 | h1
     ·exact hr q h1
     ·obtain ⟨k,hk,ek⟩:=List.mem_iff_getElem.1 (nt hc' q h1 hq);obtain ⟨u,hu,eu⟩:=hr i hic;have hl:=(hs.rows i hi).1;refine ⟨u ++ [k],hu.append (Word.cons (by omega) (Word.nil _)),?_⟩;rw [d4,eu];show dd next i k = _;rw [i9 hi hk,ek]
    ·cases h
   ·cases h
theorem ahl {L s s' : Int} {next n' : List (List Int)} {fin f' : List Bool} (hs : Shape L s next fin) (hc : Canon L s' n' f') (ha : dq L.toNat n' f' s' next fin s) : n'.length ≤ next.length:=by
 rcases Nat.eq_zero_or_pos n'.length with h0 | h0
 ·omega
 have hs0:=hc.s0 h0;subst hs0;have hr:=pz hc.shape n' 1 0 n'.length rfl (hc.num h0) (fun j hj=>⟨[],Word.nil _,show (0 : Int) = (j : Int) by omega⟩)
 have key : ∀ j : Nat,∃ q : Nat,j < n'.length → q < next.length ∧ dq L.toNat n' f' j next fin q:=fun j=>by
  by_cases hj : j < n'.length
  ·obtain ⟨u,hu,eu⟩:=hr j hj;have h1:=ha.run hu;rw [eu] at h1;have h2:=(h1.live (hc.live j hj)).pos;have h3:=j9 hs u s hu hs.s1 hs.s2;refine ⟨(runM next s u).toNat,fun _=>⟨by omega,?_⟩⟩;rw [Int.toNat_of_nonneg h2];exact h1
  ·exact ⟨0,fun h=>(hj h).elim⟩
 obtain ⟨q,hq⟩:=Classical.skolem.1 key
 have hnd : ((List.range n'.length).map q).Nodup:=by
  refine List.pairwise_map.2 (List.nodup_range.imp_of_mem fun {a b} h1 h2 h3 e=>h3 ?_);have k1:=hq a (List.mem_range.1 h1);have k2:=hq b (List.mem_range.1 h2);rw [← e] at k2;exact hc.dist a b (List.mem_range.1 h1) (List.mem_range.1 h2) (k1.2.trans k2.2.symm)
 have:=hnd.length_le_of_subset (l₂:=List.range next.length) (fun x hx=>by
  obtain ⟨j,hj,rfl⟩:=List.mem_map.1 hx;exact List.mem_range.2 (hq j (List.mem_range.1 hj)).1)
 simpa using this
end
section
abbrev gt (l : List Nat) (i : Nat) : Nat:=l.getD i 0
theorem fh (l : List Nat) (i v j : Nat) : gt (l.set i v) j = if i = j ∧ i < l.length then v else gt l j:=by
 simp only [gt,List.getD_eq_getElem?_getD,List.getElem?_set]
 split
 ·rename_i h;subst h
  split
  ·simp [*]
  ·rename_i h2;simp [h2]
 ·rename_i h;simp [h]
theorem su (l k : List Nat) (j : Nat) : gt (l ++ k) j = if j < l.length then gt l j else gt k (j - l.length):=by
 simp only [gt,List.getD_eq_getElem?_getD,List.getElem?_append]
 split <;> rfl
structure Blk where
 first : Nat
 size : Nat
 marked : Nat
 parent : Nat
abbrev gb (l : List Blk) (i : Nat) : Blk:=l.getD i ⟨0,0,0,0⟩
theorem qy (l : List Blk) (i : Nat) (v : Blk) (j : Nat) : gb (l.set i v) j = if i = j ∧ i < l.length then v else gb l j:=by
 simp only [gb,List.getD_eq_getElem?_getD,List.getElem?_set]
 split
 ·rename_i h;subst h
  split
  ·simp [*]
  ·rename_i h2;simp [h2]
 ·rename_i h;simp [h]
theorem gb_app (l : List Blk) (v : Blk) (j : Nat) : gb (l ++ [v]) j = if j < l.length then gb l j else if j = l.length then v else ⟨0,0,0,0⟩:=by
 simp only [gb,List.getD_eq_getElem?_getD,List.getElem?_append]
 split
 ·rfl
 ·split
  ·rename_i h; simp [h]
  ·rename_i h1 h2;rw [List.getElem?_eq_none (by simp; omega)];rfl
structure Pt where
 st : List Nat
 pl : List Nat
 bl : List Nat
 bs : List Blk
 cs : List Nat
 ml : List Nat
structure PI (p : Pt) (N : Nat) (todo : List Nat) : Prop where
 st : p.st.length = N
 pl : p.pl.length = N
 bl : p.bl.length = N
 sp : ∀ i,i < N → gt p.st i < N ∧ gt p.pl (gt p.st i) = i
 ps : ∀ s,s < N → gt p.pl s < N ∧ gt p.st (gt p.pl s) = s
 ib : ∀ s,s < N → gt p.bl s < p.bs.length
 inn : ∀ s,s < N → (gb p.bs (gt p.bl s)).first ≤ gt p.pl s ∧ gt p.pl s < (gb p.bs (gt p.bl s)).first + (gb p.bs (gt p.bl s)).size
 bd : ∀ b,b < p.bs.length → 0 < (gb p.bs b).size ∧ (gb p.bs b).marked ≤ (gb p.bs b).size ∧ (gb p.bs b).first + (gb p.bs b).size ≤ N
 own : ∀ b,b < p.bs.length → ∀ i,(gb p.bs b).first ≤ i → i < (gb p.bs b).first + (gb p.bs b).size → gt p.bl (gt p.st i) = b
 tm : ∀ b,b ∈ todo ↔ b < p.bs.length ∧ 0 < (gb p.bs b).marked
 nd : todo.Nodup
def Pt.M (p : Pt) (s : Nat) : Prop:=gt p.pl s < (gb p.bs (gt p.bl s)).first + (gb p.bs (gt p.bl s)).marked
def Pt.mark (p : Pt) (s : Nat) : Pt:=
 let own:=gt p.bl s
 let b:=gb p.bs own
 let to:=b.first + b.marked
 let fr:=gt p.pl s
 let ot:=gt p.st to
 { p with ml:=if b.marked = 0 then p.ml ++ [own] else p.ml,st:=(p.st.set to s).set fr ot,pl:=(p.pl.set s to).set ot fr,bs:=p.bs.set own ⟨b.first,b.size,b.marked + 1,b.parent⟩ }
theorem PI.to {p : Pt} {N : Nat} (h : PI p N p.ml) {s : Nat} (hs : s < N) (hm : ¬ p.M s) : (gb p.bs (gt p.bl s)).first + (gb p.bs (gt p.bl s)).marked < N ∧ (gb p.bs (gt p.bl s)).marked < (gb p.bs (gt p.bl s)).size:=by
 unfold Pt.M at hm;have h1:=h.inn s hs;have h2:=h.bd _ (h.ib s hs);omega
theorem mark_ok {p : Pt} {N : Nat} (h : PI p N p.ml) {s : Nat} (hs : s < N) (hm : ¬ p.M s) : PI (p.mark s) N (p.mark s).ml ∧ (∀ t,t < N → ((p.mark s).M t ↔ p.M t ∨ t = s)):=by
 have ht:=h.to hs hm;have hb:=h.ib s hs;obtain ⟨own,hown⟩ : ∃ own,gt p.bl s = own:=⟨_,rfl⟩;obtain ⟨b,hbb⟩ : ∃ b,gb p.bs own = b:=⟨_,rfl⟩;obtain ⟨to,hto⟩ : ∃ to,b.first + b.marked = to:=⟨_,rfl⟩;obtain ⟨fr,hfr⟩ : ∃ fr,gt p.pl s = fr:=⟨_,rfl⟩;obtain ⟨ot,hot⟩ : ∃ ot,gt p.st to = ot:=⟨_,rfl⟩
 have hmk : p.mark s = { p with ml:=if b.marked = 0 then p.ml ++ [own] else p.ml,st:=(p.st.set to s).set fr ot,pl:=(p.pl.set s to).set ot fr,bs:=p.bs.set own ⟨b.first,b.size,b.marked + 1,b.parent⟩ }:=by
  simp only [Pt.mark,hown,hbb,hto,hfr,hot]
 rw [hown,hbb] at ht;rw [hown] at hb;have hps:=h.ps s hs;rw [hfr] at hps;have hinn:=h.inn s hs;rw [hown,hbb,hfr] at hinn;have hbd:=h.bd own hb;rw [hbb] at hbd
 have hM : ¬ fr < to:=by
  unfold Pt.M at hm;rw [hown,hbb,hfr,hto] at hm;exact hm
 have hspt:=h.sp to (by omega);rw [hot] at hspt;have hoto : gt p.bl ot = own:=by rw [← hot]; exact h.own own hb to (by rw [hbb]; omega) (by rw [hbb]; omega)
 rw [hmk]
 have gst : ∀ i,i < N → gt ((p.st.set to s).set fr ot) i = if fr = i then ot else if to = i then s else gt p.st i:=fun i hi=>by
  rw [fh,fh,List.length_set,h.st];have : fr < N:=hps.1;have : to < N:=by omega
  simp only [*,and_true]
 have gpl : ∀ t,t < N → gt ((p.pl.set s to).set ot fr) t = if ot = t then fr else if s = t then to else gt p.pl t:=fun i hi=>by
  rw [fh,fh,List.length_set,h.pl]
  have:=hspt.1
  simp only [*,and_true]
 have gbs : ∀ c,gb (p.bs.set own ⟨b.first,b.size,b.marked + 1,b.parent⟩) c = if own = c then ⟨b.first,b.size,b.marked + 1,b.parent⟩ else gb p.bs c:=fun c=>by
  rw [qy];simp only [hb,and_true]
 have hsz : ∀ c,(gb (p.bs.set own ⟨b.first,b.size,b.marked + 1,b.parent⟩) c).first = (gb p.bs c).first ∧ (gb (p.bs.set own ⟨b.first,b.size,b.marked + 1,b.parent⟩) c).size = (gb p.bs c).size:=fun c=>by
  rw [gbs]
  split
  ·rename_i e; subst e; rw [hbb]; exact ⟨rfl,rfl⟩
  ·exact ⟨rfl,rfl⟩
 have inj : ∀ i j,i < N → j < N → gt p.st i = gt p.st j → i = j:=fun i j hi hj e=>by rw [← (h.sp i hi).2,e,(h.sp j hj).2]
 have injp : ∀ i j,i < N → j < N → gt p.pl i = gt p.pl j → i = j:=fun i j hi hj e=>by rw [← (h.ps i hi).2,e,(h.ps j hj).2]
 have inn2 : ∀ t,t < N → (gb p.bs (gt p.bl t)).first ≤ gt ((p.pl.set s to).set ot fr) t ∧ gt ((p.pl.set s to).set ot fr) t < (gb p.bs (gt p.bl t)).first + (gb p.bs (gt p.bl t)).size:=fun t htN=>by
  rw [gpl t htN]
  split
  ·rename_i e; subst e; rw [hoto,hbb]; omega
  ·split
   ·rename_i e; subst e; rw [hown,hbb]; omega
   ·exact h.inn t htN
 refine ⟨⟨by simp [h.st],by simp [h.pl],h.bl,fun i hi=>?_,fun t htN=>?_,fun t htN=>by simpa using h.ib t htN,fun t htN=>?_,fun c hc=>?_,fun c hc i h1 h2=>?_,fun c=>?_,?_⟩,fun t htN=>?_⟩
 ·show gt ((p.st.set to s).set fr ot) i < N ∧ gt ((p.pl.set s to).set ot fr) (gt ((p.st.set to s).set fr ot) i) = i;rw [gst i hi]
  split
  ·rename_i e;refine ⟨hspt.1,?_⟩;rw [gpl _ hspt.1,if_pos rfl]; exact e
  ·rename_i e1
   split
   ·rename_i e;refine ⟨hs,?_⟩;rw [gpl _ hs]
    split
    ·rename_i e2;have : gt p.st to = gt p.st fr:=by rw [hot,hps.2,e2]
     have:=inj _ _ (by omega) hps.1 this
     omega
    ·rw [if_pos rfl]; exact e
   ·rename_i e2;have hsp:=h.sp i hi;refine ⟨hsp.1,?_⟩;rw [gpl _ hsp.1,if_neg,if_neg]
    ·exact hsp.2
    ·intro e3
     apply e1
     rw [← hfr,e3]; exact hsp.2
    ·intro e3
     apply e2
     have:=hspt.2
     rw [e3,hsp.2] at this;omega
 ·show gt ((p.pl.set s to).set ot fr) t < N ∧ gt ((p.st.set to s).set fr ot) (gt ((p.pl.set s to).set ot fr) t) = t;rw [gpl t htN]
  split
  ·rename_i e;refine ⟨hps.1,?_⟩;rw [gst _ hps.1,if_pos rfl]; exact e
  ·rename_i e1
   split
   ·rename_i e;refine ⟨by omega,?_⟩;rw [gst _ (by omega)]
    split
    ·rename_i e2;have : gt p.st to = s:=by rw [← e2]; exact hps.2
     exact (e1 (by rw [← hot,this]; exact e)).elim
    ·rw [if_pos rfl]; exact e
   ·rename_i e2;have hp:=h.ps t htN;refine ⟨hp.1,?_⟩;rw [gst _ hp.1,if_neg,if_neg]
    ·exact hp.2
    ·intro e3
     apply e1
     rw [← hot,e3]; exact hp.2
    ·intro e3
     apply e2
     have:=hps.2
     rw [e3,hp.2] at this;omega
 ·show (gb (p.bs.set own _) (gt p.bl t)).first ≤ gt ((p.pl.set s to).set ot fr) t ∧ _ < (gb (p.bs.set own _) (gt p.bl t)).first + (gb (p.bs.set own _) (gt p.bl t)).size;rw [(hsz _).1,(hsz _).2];exact inn2 t htN
 ·show 0 < (gb (p.bs.set own _) c).size ∧ (gb (p.bs.set own _) c).marked ≤ (gb (p.bs.set own _) c).size ∧ (gb (p.bs.set own _) c).first + (gb (p.bs.set own _) c).size ≤ N;have hc' : c < p.bs.length:=by simpa using hc
  rw [gbs]
  split
  ·simp only; omega
  ·exact h.bd c hc'
 ·have hc' : c < p.bs.length:=by simpa using hc
  have h1 : (gb p.bs c).first ≤ i:=by rw [← (hsz c).1]; exact h1
  have h2 : i < (gb p.bs c).first + (gb p.bs c).size:=by rw [← (hsz c).1,← (hsz c).2]; exact h2
  have hcN:=h.bd c hc';show gt p.bl (gt ((p.st.set to s).set fr ot) i) = c;rw [gst i (by omega)]
  split
  ·rename_i e
   have:=h.own c hc' i h1 h2
   rw [← e,hps.2,hown] at this;rw [hoto]; exact this
  ·split
   ·rename_i e
    have:=h.own c hc' i h1 h2
    rw [← e,hot,hoto] at this;rw [hown]; exact this
   ·exact h.own c hc' i h1 h2
 ·show c ∈ (if b.marked = 0 then p.ml ++ [own] else p.ml) ↔ c < (p.bs.set own _).length ∧ 0 < (gb (p.bs.set own _) c).marked;rw [gbs,List.length_set];have htm:=h.tm c
  split
  ·rename_i hz;rw [List.mem_append,List.mem_singleton]
   split
   ·rename_i e; subst e; simp [hb]
   ·rename_i e;rw [htm]
    constructor
    ·rintro (h | h)
     ·exact h
     ·exact (e h.symm).elim
    ·exact .inl
  ·rename_i hz;rw [htm]
   split
   ·rename_i e; subst e;rw [hbb];simp only [hb,true_and];omega
   ·rfl
 ·show (if b.marked = 0 then p.ml ++ [own] else p.ml).Nodup
  split
  ·rename_i hz;rw [List.nodup_append];refine ⟨h.nd,by simp,fun x hx y hy e=>?_⟩;rw [List.mem_singleton] at hy
   have:=(h.tm x).1 hx
   rw [e,hy,hbb] at this;omega
  ·exact h.nd
 ·show gt ((p.pl.set s to).set ot fr) t < (gb (p.bs.set own _) (gt p.bl t)).first + (gb (p.bs.set own _) (gt p.bl t)).marked ↔ gt p.pl t < (gb p.bs (gt p.bl t)).first + (gb p.bs (gt p.bl t)).marked ∨ t = s;rw [gpl t htN,gbs]
  by_cases e1 : ot = t
  ·subst e1;rw [if_pos rfl,hoto,if_pos rfl,hbb];show fr < b.first + (b.marked + 1) ↔ _;have h3 : gt p.pl ot = to:=hspt.2
   constructor
   ·intro hlt;have e : fr = to:=by omega
    refine .inr ?_;rw [← hot,← e]; exact hps.2
   ·rintro (h4 | h4)
    ·omega
    ·rw [h4,hfr] at h3; omega
  ·rw [if_neg e1]
   by_cases e2 : s = t
   ·subst e2;rw [if_pos rfl,hown,if_pos rfl];simp;omega
   ·rw [if_neg e2];have hne : gt p.pl t ≠ to:=fun e=>e1 (by rw [← hot,← e]; exact (h.ps t htN).2)
    by_cases e3 : own = gt p.bl t
    ·rw [if_pos e3,← e3,hbb];show gt p.pl t < b.first + (b.marked + 1) ↔ _
     constructor
     ·intro h4; exact .inl (by omega)
     ·rintro (h4 | h4)
      ·omega
      ·exact (e2 h4.symm).elim
    ·rw [if_neg e3]
     constructor
     ·exact .inl
     ·rintro (h4 | h4)
      ·exact h4
      ·exact (e2 h4.symm).elim
end
end Go.Proofs.YtndldmojkpjgoaaGreatDoor
