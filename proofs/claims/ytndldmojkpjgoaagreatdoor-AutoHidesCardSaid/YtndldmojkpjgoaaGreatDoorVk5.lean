/- AutoHides holds of the program: the walks of its reference, its law and the program's Hide, and the card. -/
import Derived.DeepKeys4
import Derived.KernelRfl
import Derived.TacticsIn
import Derived.RangeFuncOwn
import Derived.Test.YtndldmojkpjgoaaGreatDoorVk4
set_option maxRecDepth 100000
namespace Go.Proofs.YtndldmojkpjgoaaGreatDoor
section
open Go Sym
section
variable {base : Nat} {w0 w w' : World} {l : List Ow}
theorem Hold.makeBr (h : Hold base w0 w l) {n : Nat} (hn : n ≤ 9223372036854775807) : Hold base w0 (w.alloc (.cells (madeCells #[.bool false] n) 4)) (oB (Vs w.heap.size n n) (List.replicate n false) :: l):=by
 have h1:=h.lit (e:=4) (s:=1) (n:=n) (madeCells #[.bool false] n) (by simp [madeCells]) hn;rw [toList_madeCells_one] at h1
 simpa [oB,ip] using h1
theorem rz : ∀ (Z : List Ow) (i : Nat),i < Z.length → ∀ x : Ow,(Z.set i x).Perm (x :: Z.eraseIdx i)
 | [],_,h,_=>by simp at h
 | _ :: _,0,_,_=>.refl _
 | a :: Z,i + 1,h,x=>(List.Perm.cons a (rz Z i (by simpa using h) x)).trans (.swap _ _ _)
theorem Hold.putRow {x : Ow} {A Z : List Ow} (h : Hold base w0 w (x :: (A ++ Z))) {i : Nat} (hi : i < Z.length) : Hold base w0 w (A ++ Z.set i x):=by
 have p2:=rz Z i hi x;have p1:=rz Z i hi Z[i];rw [List.set_getElem_self] at p1;refine (h.perm (l':=Z[i] :: (A ++ Z.set i x)) ?_).tail;refine .trans (.cons x ((p1.append_left A).trans List.perm_middle)) (.trans (.swap _ _ _) (.cons _ ?_));exact .trans List.perm_middle.symm (p2.symm.append_left A)
end
end
section
open Go Sym
end
section
open Go Sym
structure MBx (w : World) (b : Nat) (L s : Int) (n : List (List Int)) (f : List Bool) (vn ve : Value) : Prop where
 o : OwnB w b 25 [Vi L,Vi s,vn,ve]
 m : Ma w L s n f vn ve
theorem MBx.keep {w w' : World} {b : Nat} {L s : Int} {n : List (List Int)} {f : List Bool} {vn ve : Value} (h : MBx w b L s n f vn ve) (hb : RowKit.Below w.heap.size w w') : MBx w' b L s n f vn ve:=⟨h.o.keep hb h.o.lt,h.m.keep hb⟩
theorem MBx.cells {w : World} {b : Nat} {L s : Int} {n : List (List Int)} {f : List Bool} {vn ve : Value} (h : MBx w b L s n f vn ve) : ca w.cell? b 0 [Vi L,Vi s,vn,ve]:=
 ⟨h.o.cell (i:=0) rfl,h.o.cell (i:=1) rfl,h.o.cell (i:=2) rfl,h.o.cell (i:=3) rfl,trivial⟩
theorem ab5 {w : World} {L s : Int} {n : List (List Int)} {f : List Bool} {vn ve : Value} (h : Ma w L s n f vn ve) :
  RowKit.Below w.heap.size w ((w.alloc (.cells #[Vi 0,Vi 0,.slice none 0 0,.slice none 0 0] 25)).setCells w.heap.size 0 [Vi L,Vi s,vn,ve]) ∧ MBx ((w.alloc (.cells #[Vi 0,Vi 0,.slice none 0 0,.slice none 0 0] 25)).setCells w.heap.size 0 [Vi L,Vi s,vn,ve]) w.heap.size L s n f vn ve:=by
 have hnew:=OwnB.new w [Vi 0,Vi 0,.slice none 0 0,.slice none 0 0] 25;have hg:=bz w.heap.size [Vi L,Vi s,vn,ve] 0 (w.alloc (.cells #[Vi 0,Vi 0,.slice none 0 0,.slice none 0 0] 25));have hb:=a6 (ao w (.cells #[Vi 0,Vi 0,.slice none 0 0,.slice none 0 0] 25)) hg (fun q hq=>by cases hq; exact Nat.le_refl _);exact ⟨hb,hnew.sets rfl,h.keep hb⟩
end
section
def hidB (hid : List Bool) (c : Nat) : Bool:=hid.getD c false
def visW (hid : List Bool) (v : List Nat) : List Nat:=v.filter fun c=>!hidB hid c
section
variable {hid : List Bool}
theorem ah7 : visW hid [] = []:=rfl
theorem o6 {c : Nat} {v : List Nat} (h : hidB hid c = true) : visW hid (c :: v) = visW hid v:=by simp [visW,h]
theorem o5 {c : Nat} {v : List Nat} (h : hidB hid c = false) : visW hid (c :: v) = c :: visW hid v:=by simp [visW,h]
theorem g9 (v w : List Nat) : visW hid (v ++ w) = visW hid v ++ visW hid w:=by simp [visW]
theorem x4 {L : Nat} {v : List Nat} (h : Word L v) : Word L (visW hid v):=fun x hx=>h x (List.mem_filter.1 hx).1
theorem mg : ∀ {v : List Nat} {c : Nat} {w : List Nat},visW hid v = c :: w → ∃ v1 v2,v = v1 ++ c :: v2 ∧ visW hid v1 = [] ∧ visW hid v2 = w ∧ hidB hid c = false
 | [],_,_,h=>by cases h
 | a :: v,c,w,h=>by
   cases ha : hidB hid a with
   | true=>
     rw [o6 ha] at h;obtain ⟨v1,v2,rfl,h1,h2,h3⟩:=mg h;exact ⟨a :: v1,v2,rfl,by rw [o6 ha,h1],h2,h3⟩
   | false=>
     rw [o5 ha,List.cons.injEq] at h;obtain ⟨rfl,h⟩:=h;exact ⟨[],v,rfl,rfl,h,ha⟩
end
def HRun (L : Nat) (next : List (List Int)) (hid : List Bool) (S : Nat → Prop) (w : List Nat) (j : Nat) : Prop:=∃ (i : Nat) (v : List Nat),S i ∧ Word L v ∧ visW hid v = w ∧ runM next i v = (j : Int)
def HCl (L : Nat) (next : List (List Int)) (hid : List Bool) (S : Nat → Prop) : Prop:=∀ (i c k : Nat),S i → c < L → hidB hid c = true → dd next i c = (k : Int) → S k
def mc (next : List (List Int)) (S : Nat → Prop) (c : Nat) (k : Nat) : Prop:=∃ i : Nat,S i ∧ dd next i c = (k : Int)
section
variable {L : Nat} {next : List (List Int)} {hid : List Bool} {S T : Nat → Prop}
theorem HRun.mono (h : ∀ i,S i → T i) {w : List Nat} {j : Nat} (hr : HRun L next hid S w j) : HRun L next hid T w j:=by
 obtain ⟨i,v,h1,h2⟩:=hr;exact ⟨i,v,h i h1,h2⟩
theorem HRun.self {j : Nat} (h : S j) : HRun L next hid S [] j:=⟨j,[],h,Word.nil _,rfl,rfl⟩
theorem HCl.run (h : HCl L next hid S) : ∀ {v : List Nat} {i j : Nat},S i → Word L v → visW hid v = [] → runM next i v = (j : Int) → S j
 | [],i,j,hi,_,_,hr=>by
   have : (i : Int) = j:=hr;have : i = j:=by omega
   exact this ▸ hi
 | c :: v,i,j,hi,hw,hv,hr=>by
   cases hc : hidB hid c with
   | false=>rw [o5 hc] at hv; cases hv
   | true=>
     rw [o6 hc] at hv;rw [runM] at hr
     by_cases hk : dd next i c < 0
     ·have:=kq next v hk
      omega
     ·obtain ⟨k,ek⟩:=Int.eq_ofNat_of_zero_le (Int.not_lt.1 hk);rw [ek] at hr;exact h.run (h i c k hi hw.head hc ek) hw.tail hv hr
theorem HCl.nil (h : HCl L next hid S) {j : Nat} : HRun L next hid S [] j ↔ S j:=by
 constructor
 ·rintro ⟨i,v,h1,h2,h3,h4⟩;exact h.run h1 h2 h3 h4
 ·exact HRun.self
theorem HRun.closed {w : List Nat} : HCl L next hid (HRun L next hid S w):=by
 rintro i c k ⟨a,v,h1,h2,h3,h4⟩ hc hh hs;refine ⟨a,v ++ [c],h1,h2.append (Word.cons hc (Word.nil _)),by rw [g9,h3,o6 hh,ah7,List.append_nil],?_⟩;rw [d4,h4];exact hs
theorem HCl.least (hT : HCl L next hid T) (h : ∀ i,S i → T i) {j : Nat} (hr : HRun L next hid S [] j) : T j:=hT.nil.1 (hr.mono h)
theorem HRun.hidden {c : Nat} {w : List Nat} {j : Nat} (hc : hidB hid c = true) : ¬ HRun L next hid S (c :: w) j:=by
 rintro ⟨i,v,-,-,h3,-⟩;obtain ⟨_,_,-,-,-,h⟩:=mg h3;rw [hc] at h
 cases h
theorem HCl.cons (hS : HCl L next hid S) {c : Nat} {w : List Nat} {j : Nat} (hc : hidB hid c = false) (hL : c < L) :
  HRun L next hid S (c :: w) j ↔ HRun L next hid (HRun L next hid (mc next S c) []) w j:=by
 constructor
 ·rintro ⟨i,v,h1,h2,h3,h4⟩;obtain ⟨v1,v2,rfl,e1,e2,-⟩:=mg h3;rw [d4,runM] at h4
  by_cases hi : runM next i v1 < 0
  ·rw [i7 next hi] at h4
   have:=kq next v2 (st:=-1) (by decide)
   omega
  obtain ⟨a,ea⟩:=Int.eq_ofNat_of_zero_le (Int.not_lt.1 hi);rw [ea] at h4;have ha:=hS.run h1 h2.left e1 ea
  by_cases hk : dd next a c < 0
  ·have:=kq next v2 hk
   omega
  obtain ⟨k,ek⟩:=Int.eq_ofNat_of_zero_le (Int.not_lt.1 hk);rw [ek] at h4;exact ⟨k,v2,HRun.self ⟨a,ha,ek⟩,h2.right.tail,e2,h4⟩
 ·rintro ⟨k,v2,⟨b,v0,⟨a,h1,h2⟩,k2,k3,k4⟩,g2,g3,g4⟩;refine ⟨a,c :: (v0 ++ v2),h1,Word.cons hL (k2.append g2),?_,?_⟩
  ·rw [o5 hc,g9,k3,g3,List.nil_append]
  ·rw [runM,h2,d4,k4,g4]
end
def HAcc (L : Nat) (next : List (List Int)) (fin hid : List Bool) (S : Nat → Prop) (w : List Nat) : Prop:=∃ j,HRun L next hid S w j ∧ fin.getD j false = true
structure SetsI (L : Nat) (next : List (List Int)) (fin hid : List Bool) (nS : List (List Int)) (fS : List Bool) (m : Nat) (D : Nat → Nat → Prop) : Prop where
 cl : ∀ a,a < m → HCl L next hid (D a)
 ends : ∀ a,a < m → (fS.getD a false = true ↔ ∃ j,D a j ∧ fin.getD j false = true)
 dark : ∀ a c,a < m → c < L → hidB hid c = true → tgtM nS a c < 0
 gone : ∀ a c,a < m → c < L → hidB hid c = false → tgtM nS a c < 0 → ∀ j,¬ mc next (D a) c j
 on : ∀ a c,a < m → c < L → hidB hid c = false → 0 ≤ tgtM nS a c → (tgtM nS a c).toNat < m ∧ ∀ j,D (tgtM nS a c).toNat j ↔ HRun L next hid (mc next (D a) c) [] j
theorem SetsI.acc {L m : Nat} {next nS : List (List Int)} {fin hid fS : List Bool} {D : Nat → Nat → Prop} (h : SetsI L next fin hid nS fS m D) : ∀ (w : List Nat) (a : Nat),Word L w → a < m → (accM nS fS a w = true ↔ HAcc L next fin hid (D a) w)
 | [],a,_,ha=>by
   rw [fu,fo,decide_eq_true (Int.natCast_nonneg a),Bool.true_and,Int.toNat_natCast,h.ends a ha];exact ⟨fun ⟨j,h1,h2⟩=>⟨j,HRun.self h1,h2⟩,fun ⟨j,h1,h2⟩=>⟨j,(h.cl a ha).nil.1 h1,h2⟩⟩
 | c :: w,a,hw,ha=>by
   have hc:=hw.head;rw [ef,dv (Int.natCast_nonneg a)]
   cases hh : hidB hid c with
   | true=>
     rw [di _ _ _ (h.dark a c ha hc hh)];refine ⟨fun e=>(by cases e),fun ⟨j,h1,_⟩=>(HRun.hidden hh h1).elim⟩
   | false=>
     by_cases hk : tgtM nS a c < 0
     ·rw [di _ _ _ hk];refine ⟨fun e=>(by cases e),fun ⟨j,h1,_⟩=>?_⟩;obtain ⟨k,-,⟨b,-,hb,-⟩,-⟩:=((h.cl a ha).cons hh hc).1 h1;exact (h.gone a c ha hc hh hk b hb).elim
     ·obtain ⟨h1,h2⟩:=h.on a c ha hc hh (Int.not_lt.1 hk);have e:=h.acc w (tgtM nS a c).toNat hw.tail h1;rw [Int.toNat_of_nonneg (Int.not_lt.1 hk)] at e;rw [e]
      constructor
      ·rintro ⟨j,k1,k2⟩;exact ⟨j,((h.cl a ha).cons hh hc).2 (k1.mono fun i hi=>(h2 i).1 hi),k2⟩
      ·rintro ⟨j,k1,k2⟩;exact ⟨j,(((h.cl a ha).cons hh hc).1 k1).mono fun i hi=>(h2 i).2 hi,k2⟩
theorem adp {L : Nat} {next : List (List Int)} {fin hid : List Bool} {s : Int} {w : List Nat} :
  HAcc L next fin hid (fun i=>(i : Int) = s) w ↔ ∃ v,Word L v ∧ visW hid v = w ∧ accM next fin s v = true:=by
 constructor
 ·rintro ⟨j,⟨i,v,rfl,h2,h3,h4⟩,hf⟩;exact ⟨v,h2,h3,by rw [accM,h4,fo,decide_eq_true (Int.natCast_nonneg j),Bool.true_and,Int.toNat_natCast,hf]⟩
 ·rintro ⟨v,h2,h3,h4⟩;rw [accM,fo,Bool.and_eq_true,decide_eq_true_eq] at h4;obtain ⟨j,ej⟩:=Int.eq_ofNat_of_zero_le h4.1;have hs : 0 ≤ s:=Int.not_lt.1 fun hs=>by have:=kq next v hs; omega
  obtain ⟨i,ei⟩:=Int.eq_ofNat_of_zero_le hs;subst ei;refine ⟨j,⟨i,v,rfl,h2,h3,ej⟩,?_⟩
  have:=h4.2
  rwa [ej,Int.toNat_natCast] at this
theorem aat {L : Nat} {next : List (List Int)} {fin hid : List Bool} {S : Nat → Prop} {w : List Nat} : HAcc L next fin hid (HRun L next hid S []) w ↔ HAcc L next fin hid S w:=by
 constructor
 ·rintro ⟨j,⟨i,v,⟨a,u,h1,h2,h3,h4⟩,k2,k3,k4⟩,hf⟩;exact ⟨j,⟨a,u ++ v,h1,h2.append k2,by rw [g9,h3,k3,List.nil_append],by rw [d4,h4,k4]⟩,hf⟩
 ·rintro ⟨j,h,hf⟩;exact ⟨j,h.mono fun i hi=>HRun.self hi,hf⟩
noncomputable def p8 (n : Nat) (S : Nat → Prop) : List Bool:=by
 classical
 exact (List.range n).map fun j=>decide (S j)
theorem yf {n : Nat} {S : Nat → Prop} {j : Nat} (hj : j < n) : (p8 n S).getD j false = true ↔ S j:=by
 simp [p8,List.getD_eq_getElem?_getD,List.getElem?_range hj]
theorem yg {n : Nat} {S T : Nat → Prop} (h : ∀ j,j < n → (S j ↔ T j)) : p8 n S = p8 n T:=by
 classical
 unfold p8;exact List.map_congr_left fun j hj=>decide_eq_decide.2 (h j (List.mem_range.1 hj))
theorem kb {n : Nat} {S T : Nat → Prop} (h : p8 n S = p8 n T) {j : Nat} (hj : j < n) : S j ↔ T j:=by
 have h1:=yf (S:=S) hj;rw [h] at h1;exact h1.symm.trans (yf hj)
def HSet (L : Nat) (next : List (List Int)) (hid : List Bool) (s : Int) (r : List Bool) : Prop:=∃ w j,Word L w ∧ HRun L next hid (fun i=>(i : Int) = s) w j ∧ r = p8 next.length (HRun L next hid (fun i=>(i : Int) = s) w)
def zm (L : Nat) (next : List (List Int)) (hid : List Bool) (s : Int) : Prop:=∃ l : List (List Bool),l.Nodup ∧ 4000 < l.length ∧ ∀ r ∈ l,HSet L next hid s r
def oz (L s : Int) (next : List (List Int)) (fin hid : List Bool) (L' s' : Int) (n' : List (List Int)) (f' : List Bool) (r : Int) : Prop:=
 ((de L s next fin ≠ 0 ∨ (hid.length : Int) ≠ L) ∧ r = 1 ∧ L' = 0 ∧ s' = 0 ∧ n' = [] ∧ f' = []) ∨
 (de L s next fin = 0 ∧ (hid.length : Int) = L ∧ ∃ sx nx fx,Canon L sx nx fx ∧ dq L.toNat nx fx sx next fin s ∧
  ((zm L.toNat nx hid sx ∧ r = 5 ∧ L' = 0 ∧ s' = 0 ∧ n' = [] ∧ f' = []) ∨
   (¬ zm L.toNat nx hid sx ∧ r = 0 ∧ L' = L ∧ Canon L s' n' f' ∧ ∀ w,Word L.toNat w → (accM n' f' s' w = true ↔ HAcc L.toNat nx fx hid (fun i=>(i : Int) = sx) w))))
theorem oz.one {L s : Int} {next : List (List Int)} {fin hid : List Bool} {L1 s1 r1 L2 s2 r2 : Int} {n1 n2 : List (List Int)} {f1 f2 : List Bool} (h : oz L s next fin hid L1 s1 n1 f1 r1) (k : oz L s next fin hid L2 s2 n2 f2 r2) :
  L1 = L2 ∧ s1 = s2 ∧ n1 = n2 ∧ f1 = f2 ∧ r1 = r2:=by
 rcases h with ⟨h0,rfl,rfl,rfl,rfl,rfl⟩ | ⟨h0,h1,sx,nx,fx,hc,ha,hr⟩
 ·rcases k with ⟨_,rfl,rfl,rfl,rfl,rfl⟩ | ⟨k0,k1,_⟩
  ·exact ⟨rfl,rfl,rfl,rfl,rfl⟩
  ·exact (h0.elim (· k0) (· k1)).elim
 ·rcases k with ⟨k0,_⟩ | ⟨_,_,sy,ny,fy,kc,ka,kr⟩
  ·exact (k0.elim (· h0) (· h1)).elim
  ·obtain ⟨rfl,rfl,rfl⟩:=tg hc kc (ha.trans ka.symm)
   rcases hr with ⟨g0,rfl,rfl,rfl,rfl,rfl⟩ | ⟨g0,rfl,rfl,g1,g2⟩
   ·rcases kr with ⟨_,rfl,rfl,rfl,rfl,rfl⟩ | ⟨k0,_⟩
    ·exact ⟨rfl,rfl,rfl,rfl,rfl⟩
    ·exact (k0 g0).elim
   ·rcases kr with ⟨k0,_⟩ | ⟨_,rfl,rfl,k1,k2⟩
    ·exact (g0 k0).elim
    ·obtain ⟨a,b,c⟩:=tg g1 k1 (fun w hw=>Bool.eq_iff_iff.2 ((g2 w hw).trans (k2 w hw).symm));exact ⟨rfl,a,b,c,rfl⟩
theorem oz.left {L s : Int} {next : List (List Int)} {fin hid : List Bool} {L' s' : Int} {n' : List (List Int)} {f' : List Bool} (h : oz L s next fin hid L' s' n' f' 0) {v : List Nat} (hv : Word L.toNat v) (ha : accM next fin s v = true) :
  Word L.toNat (visW hid v) ∧ accM n' f' s' (visW hid v) = true:=by
 rcases h with ⟨_,h1,_⟩ | ⟨_,_,sx,nx,fx,hc,hal,hr⟩
 ·cases h1
 rcases hr with ⟨_,h1,_⟩ | ⟨_,_,_,_,h2⟩
 ·cases h1
 refine ⟨x4 hv,(h2 _ (x4 hv)).2 (adp.2 ⟨v,hv,rfl,?_⟩)⟩;rw [hal v hv,ha]
section
variable {L m : Nat} {next nS : List (List Int)} {fin hid fS : List Bool} {D : Nat → Nat → Prop} {s : Int}
theorem aas {S : Nat → Prop} {w : List Nat} {j : Nat} : HRun L next hid (HRun L next hid S []) w j ↔ HRun L next hid S w j:=by
 constructor
 ·rintro ⟨i,v,⟨a,u,h1,h2,h3,h4⟩,k2,k3,k4⟩;exact ⟨a,u ++ v,h1,h2.append k2,by rw [g9,h3,k3,List.nil_append],by rw [d4,h4,k4]⟩
 ·exact fun h=>h.mono fun i hi=>HRun.self hi
theorem SetsI.reach (h : SetsI L next fin hid nS fS m D) : ∀ (w : List Nat) (a : Nat),Word L w → a < m → (∃ b,b < m ∧ ∀ j,D b j ↔ HRun L next hid (D a) w j) ∨ ∀ j,¬ HRun L next hid (D a) w j
 | [],a,_,ha=>.inl ⟨a,ha,fun _=>(h.cl a ha).nil.symm⟩
 | c :: w,a,hw,ha=>by
   have hc:=hw.head
   cases hh : hidB hid c with
   | true=>exact .inr fun j=>HRun.hidden hh
   | false=>
     by_cases hk : tgtM nS a c < 0
     ·refine .inr fun j h1=>?_;obtain ⟨k,-,⟨b,-,hb,-⟩,-⟩:=((h.cl a ha).cons hh hc).1 h1;exact h.gone a c ha hc hh hk b hb
     ·obtain ⟨h1,h2⟩:=h.on a c ha hc hh (Int.not_lt.1 hk)
      have key : ∀ j,HRun L next hid (D a) (c :: w) j ↔ HRun L next hid (D (tgtM nS a c).toNat) w j:=fun j=>
       ((h.cl a ha).cons hh hc).trans ⟨fun x=>x.mono fun i hi=>(h2 i).2 hi,fun x=>x.mono fun i hi=>(h2 i).1 hi⟩
      rcases h.reach w _ hw.tail h1 with ⟨b,hb,e⟩ | e
      ·exact .inl ⟨b,hb,fun j=>(e j).trans (key j).symm⟩
      ·exact .inr fun j hj=>e j ((key j).1 hj)
theorem SetsI.few (h : SetsI L next fin hid nS fS m D) (h0 : 0 < m) (hD : ∀ j,D 0 j ↔ HRun L next hid (fun i=>(i : Int) = s) [] j) (hm : m ≤ 4000) : ¬ zm L next hid s:=by
 rintro ⟨l,hn,h4,hl⟩
 have:=hn.length_le_of_subset (l₂:=(List.range m).map fun a=>p8 next.length (D a)) (fun r hr=>by
  obtain ⟨w,j,hw,hj,rfl⟩:=hl r hr
  have key : ∀ j,HRun L next hid (D 0) w j ↔ HRun L next hid (fun i=>(i : Int) = s) w j:=fun j=>
   Iff.trans ⟨fun x=>x.mono fun i hi=>(hD i).1 hi,fun x=>x.mono fun i hi=>(hD i).2 hi⟩ aas
  rcases h.reach w 0 hw h0 with ⟨b,hb,e⟩ | e
  ·exact List.mem_map.2 ⟨b,List.mem_range.2 hb,yg fun j _=>(e j).trans (key j)⟩
  ·exact (e j ((key j).2 hj)).elim)
 rw [List.length_map,List.length_range] at this;omega
theorem SetsI.acc0 (h : SetsI L next fin hid nS fS m D) (h0 : 0 < m) (hD : ∀ j,D 0 j ↔ HRun L next hid (fun i=>(i : Int) = s) [] j) {w : List Nat} (hw : Word L w) :
  accM nS fS 0 w = true ↔ HAcc L next fin hid (fun i=>(i : Int) = s) w:=by
 refine (h.acc w 0 hw h0).trans (Iff.trans ?_ aat);exact ⟨fun ⟨j,h1,h2⟩=>⟨j,h1.mono fun i hi=>(hD i).1 hi,h2⟩,fun ⟨j,h1,h2⟩=>⟨j,h1.mono fun i hi=>(hD i).2 hi,h2⟩⟩
theorem yq {w : List Nat} (hs : s < 0) : ¬ HAcc L next fin hid (fun i=>(i : Int) = s) w:=by
 rintro ⟨j,⟨i,v,hi,-⟩,-⟩;omega
theorem ach (hs : s < 0) : ¬ zm L next hid s:=by
 rintro ⟨l,-,h4,hl⟩
 cases l with
 | nil=>simp at h4
 | cons r l=>
   obtain ⟨w,j,-,⟨i,v,hi,-⟩,-⟩:=hl r (List.mem_cons_self ..);omega
theorem rk : ∀ {u v w : List Nat},visW hid v = u ++ w → ∃ v1 v2,v = v1 ++ v2 ∧ visW hid v1 = u ∧ visW hid v2 = w
 | [],v,w,h=>⟨[],v,rfl,rfl,h⟩
 | c :: u,v,w,h=>by
   obtain ⟨v1,v2,rfl,h1,h2,h3⟩:=mg h;obtain ⟨v3,v4,rfl,h4,h5⟩:=rk h2;exact ⟨v1 ++ c :: v3,v4,by simp,by rw [g9,h1,o5 h3,h4]; rfl,h5⟩
theorem oa {S : Nat → Prop} {u w : List Nat} {j : Nat} : HRun L next hid S (u ++ w) j ↔ HRun L next hid (HRun L next hid S u) w j:=by
 constructor
 ·rintro ⟨i,v,h1,h2,h3,h4⟩;obtain ⟨v1,v2,rfl,e1,e2⟩:=rk h3;rw [d4] at h4
  by_cases hk : runM next i v1 < 0
  ·have:=kq next v2 hk
   omega
  obtain ⟨k,ek⟩:=Int.eq_ofNat_of_zero_le (Int.not_lt.1 hk);rw [ek] at h4;exact ⟨k,v2,⟨i,v1,h1,h2.left,e1,ek⟩,h2.right,e2,h4⟩
 ·rintro ⟨k,v2,⟨i,v1,h1,h2,h3,h4⟩,g2,g3,g4⟩;exact ⟨i,v1 ++ v2,h1,h2.append g2,by rw [g9,h3,g3],by rw [d4,h4,g4]⟩
theorem HSet.step {S T : Nat → Prop} {c : Nat} (h : ∃ w,Word L w ∧ ∀ j,S j ↔ HRun L next hid (fun i=>(i : Int) = s) w j) (hc : c < L) (hh : hidB hid c = false) (hT : ∀ j,T j ↔ HRun L next hid (mc next S c) [] j) :
  ∃ w,Word L w ∧ ∀ j,T j ↔ HRun L next hid (fun i=>(i : Int) = s) w j:=by
 obtain ⟨w,hw,hS⟩:=h;refine ⟨w ++ [c],hw.append (Word.cons hc (Word.nil _)),fun j=>?_⟩;rw [hT,oa,HRun.closed.cons hh hc]
 have e1 : ∀ k,mc next S c k ↔ mc next (HRun L next hid (fun i=>(i : Int) = s) w) c k:=fun k=>
  ⟨fun ⟨i,h1,h2⟩=>⟨i,(hS i).1 h1,h2⟩,fun ⟨i,h1,h2⟩=>⟨i,(hS i).2 h1,h2⟩⟩
 exact Iff.trans ⟨fun x=>HRun.self (x.mono fun i hi=>(e1 i).1 hi),fun x=>((HRun.closed).nil.1 x).mono fun i hi=>(e1 i).2 hi⟩ Iff.rfl
theorem HSet.of {S : Nat → Prop} (h : ∃ w,Word L w ∧ ∀ j,S j ↔ HRun L next hid (fun i=>(i : Int) = s) w j) {j : Nat} (hj : S j) : HSet L next hid s (p8 next.length S):=by
 obtain ⟨w,hw,hS⟩:=h;exact ⟨w,j,hw,(hS j).1 hj,yg fun k _=>hS k⟩
theorem aay {D : Nat → Nat → Prop} {m : Nat} (hm : 4000 < m) (hD : ∀ a,a < m → (∃ w,Word L w ∧ ∀ j,D a j ↔ HRun L next hid (fun i=>(i : Int) = s) w j) ∧ ∃ j,D a j)
  (hne : ∀ a b,a < m → b < m → p8 next.length (D a) = p8 next.length (D b) → a = b) : zm L next hid s:=by
 refine ⟨(List.range m).map fun a=>p8 next.length (D a),?_,by simpa using hm,fun r hr=>?_⟩
 ·exact List.pairwise_map.2 (List.nodup_range.imp_of_mem fun {a b} h1 h2 h3 e=>h3 (hne a b (List.mem_range.1 h1) (List.mem_range.1 h2) e))
 ·obtain ⟨a,ha,rfl⟩:=List.mem_map.1 hr;obtain ⟨h1,j,hj⟩:=hD a (List.mem_range.1 ha);exact HSet.of h1 hj
end
structure ClI (L : Nat) (next : List (List Int)) (hid set out : List Bool) : Prop where
 len : out.length = next.length
 sub : ∀ j,set.getD j false = true → out.getD j false = true
 inn : ∀ j,out.getD j false = true → HRun L next hid (fun i=>set.getD i false = true) [] j
def zn (L : Nat) (next : List (List Int)) (hid out : List Bool) (i k : Nat) : Prop:=k ≤ L ∧ (out.getD i false = true → ∀ c,c < k → hidB hid c = true → ∀ t : Nat,tgtM next i c = t → out.getD t false = true)
section
variable {L : Nat} {next : List (List Int)} {hid set out : List Bool}
theorem ClI.start (h : set.length = next.length) : ClI L next hid set set:=⟨h,fun _ h=>h,fun _ h=>HRun.self h⟩
theorem ClI.add (h : ClI L next hid set out) {i c t : Nat} (hi : out.getD i false = true) (hc : c < L) (hh : hidB hid c = true) (ht : tgtM next i c = t) : ClI L next hid set (out.set t true):=by
 have hl:=h.len;refine ⟨by simp [hl],fun j hj=>?_,fun j hj=>?_⟩
 ·rw [g6]
  split
  ·rfl
  ·exact h.sub j hj
 ·rw [g6] at hj
  split at hj
  ·rename_i e;obtain ⟨rfl,_⟩:=e;exact HRun.closed i c _ (h.inn i hi) hc hh (by rw [dv (Int.natCast_nonneg i)]; exact ht)
  ·exact h.inn j hj
theorem ClI.iff (h : ClI L next hid set out) (hd : ∀ i,i < next.length → zn L next hid out i L) {j : Nat} : out.getD j false = true ↔ HRun L next hid (fun i=>set.getD i false = true) [] j:=by
 refine ⟨h.inn j,fun hr=>HCl.least (T:=fun j=>out.getD j false = true) (fun i c k hi hc hh hs=>?_) h.sub hr⟩
 have hin : i < next.length:=by
  rw [← h.len];refine Nat.lt_of_not_le fun hle=>?_;simp [List.getD_eq_getElem?_getD,List.getElem?_eq_none hle] at hi
 rw [dv (Int.natCast_nonneg i)] at hs;exact (hd i hin).2 hi c hc hh k hs
end
end
section
open Go Sym
set_option maxHeartbeats 4000000 in
theorem vv (L s : Int) (vn ve vset vhid : Value) (next : List (List Int)) (fin set hid : List Bool) (w : World) (hm : Ma w L s next fin vn ve) (hs : Shape L s next fin) (hn : next.length ≤ 100000000)
  (hset : Sl w vset set je) (hok : Ok vset) (hsl : set.length = next.length) (hhid : Sl w vhid hid je) (hhl : (hid.length : Int) = L) :
  Calls Tryz.prog 19 #[.agg #[Vi L,Vi s,vn,ve],vset,vhid] w fun e w'=>∃ (g c : Nat) (out : List Bool),e = .returned (Vs g next.length c) ∧ Rows w.heap.size w' [oB (Vs g next.length c) out] ∧ RowKit.Below w.heap.size w w' ∧
   out.length = next.length ∧ ∀ j,out.getD j false = true ↔ HRun L.toNat next hid (fun i=>set.getD i false = true) [] j:=by
 refine Sym.c8 (args:=[.agg #[Vi L,Vi s,vn,ve],vset,vhid]) Tryz.func19 rfl rfl rfl (fun a0 hS0=>?_);obtain ⟨M,hM⟩ : ∃ M,M = w.heap.size:=⟨_,rfl⟩;refine wp_seq (ai [(1,vset),(2,vhid),(3,Vp M)] (· = w.alloc (.cells #[Vi L,Vi s,vn,ve] 25)) af hS0 ?_ (fun a wc hS hw=>?_))
 ·subst hM;refine zB rfl ?_
  repeat refine zX rfl ?_
  exact aj ⟨⟨rfl,rfl,rfl,trivial⟩,rfl⟩
 have hB : RowKit.Below w.heap.size w wc:=by rw [hw]; exact ao _ _
 have hx : Box wc M L s vn ve:=by rw [hw,hM]; exact Box.new _ _ _ _ _ _
 clear hw;replace hm:=hm.keep hB;replace hset:=hset.keep hB (fun _ _ h=>h);replace hhid:=hhid.keep hB (fun _ _ h=>h);obtain ⟨gh,bh,oh,ch,rfl,ah,kh1,kh2,-⟩:=id hhid
 have hcell : ∀ {u : World},RowKit.Below wc.heap.size wc u → ∀ {k : Nat} (hk : k < hid.length),∃ b o,gh = some ⟨b,o,none⟩ ∧ u.cell? ⟨b,o + k,none⟩ = some (.bool hid[k]):=fun {u} hu {k} hk=>by
  obtain ⟨a,b,o,c,e,h1,-,-,h4⟩:=hhid.keep hu (fun _ _ h=>h);simp only [Value.slice.injEq] at e;obtain ⟨rfl,-,rfl⟩:=e;obtain ⟨x,hx,rfl⟩:=h4 k hk;exact ⟨b,o,h1 (by omega),hx⟩
 refine wp_seq (bg (α:=Nat × Nat) (fun x=>[(2,.slice gh hid.length ch),(3,Vp M),(7,Vs x.1 next.length x.2)]) (fun x w'=>RowKit.Below wc.heap.size wc w' ∧ Rows wc.heap.size w' [oB (Vs x.1 next.length x.2) set]) af hS ?_ (fun x a w1 hS h1=>?_))
 ·have hy:=ao wc (.cells #[] 4);have hl:=jq wc wc.heap.size 4 (Nat.le_refl _);obtain ⟨ae,ce,rfl⟩:=hset.len
  repeat refine zX rfl ?_
  refine b8 rfl rfl rfl ?_;refine exI [] (exI #[] (anI (anI rfl rfl) (anI (by decide) (anI (by simp [Instr.fill,madeCells]) ?_))));have ask:=tq (e:=⟨4,.bool,1,1,.bool false⟩) hl (uo (f:=Value.bool) (hset.keep hy (fun _ _ h=>h)) hok (fun _ _ h=>h)) rfl (fun _=>rfl) (by omega) (by simp only [Nat.mul_one]; omega) hy.size
  repeat refine zX rfl ?_
  refine b8 rfl rfl rfl ?_;refine exI _ (exI _ (exI _ (exI _ (exI _ (anI (ask) (anI (fun _ h=>h.symm) (anI (by decide) ?_)))))));rintro v' w2 hown hgr hnil hat;rw [Nat.zero_add,List.nil_append] at hown
  have hR : Rows wc.heap.size w2 [oB v' set]:=(Rows.nil _ wc).new (o:=oB v' set) (w':=w2) ⟨hgr.os,hgr.tape,hgr.output,Nat.le_trans hy.size hgr.size,fun q hq _=>(hgr.block q (Nat.lt_of_lt_of_le hq hy.size) (by simp only [Value.ownBlock,ne_eq,Option.some.injEq]; omega)).trans (hy.block q hq)⟩ hown (by
   rcases hat with h | h
   ·exact .inr ⟨_,h,Nat.le_refl _⟩
   ·exact .inr ⟨_,h,hy.size⟩)
  have hK:=a6 hy hgr (fun q hq=>by simp only [Value.ownBlock,Option.some.injEq] at hq; omega)
  rcases hR.form (i:=0) rfl with ⟨e,_⟩ | ⟨g,c,e,_⟩
  ·have:=(hnil.1 e).1; cases this
  subst e;rw [hsl] at hR ⊢
  repeat refine zX rfl ?_
  exact aj ⟨(g,c),⟨rfl,rfl,rfl,trivial⟩,hK,hR⟩
 obtain ⟨O,cO⟩:=x;obtain ⟨hK,hR⟩:=h1;dsimp only at hS hR;refine wp_seq (wp_seq (ai [(2,.slice gh hid.length ch),(3,Vp M),(7,Vs O next.length cO),(8,.bool true)] (· = w1) af hS ?_ (fun a w2 hS hw=>?_)))
 ·repeat refine zX rfl ?_
  exact aj ⟨⟨rfl,rfl,rfl,rfl,trivial⟩,rfl⟩
 subst hw
 refine wp_block (cz hS (fun g E wr=>∃ (ag : Bool) (out : List Bool),g = 2 * ga out + (if ag = true then 1 else 0) ∧ E = [(2,.slice gh hid.length ch),(3,Vp M),(7,Vs O next.length cO),(8,.bool ag)] ∧ RowKit.Below wc.heap.size wc wr ∧ Rows wc.heap.size wr [oB (Vs O next.length cO) out] ∧ ClI L.toNat next hid set out ∧ (ag = false → ∀ i,i < next.length → zn L.toNat next hid out i L.toNat))
  (2 * ga set + 1) ⟨true,set,rfl,rfl,hK,hR,ClI.start hsl,fun h=>by cases h⟩ ?_)
 clear hK hR hS;rintro g0 E wr a1 ⟨ag,out0,rfl,rfl,hK,hR,hI,hdone⟩ hS;refine wp_seq (wp_seq (ai [(2,.slice gh hid.length ch),(3,Vp M),(7,Vs O next.length cO),(8,.bool ag),(15,.bool ag)] (· = wr) af hS ?_ (fun a w3 hS hw=>?_)))
 ·repeat refine zX rfl ?_
  exact aj ⟨⟨rfl,rfl,rfl,rfl,rfl,trivial⟩,rfl⟩
 subst hw;refine cond hS rfl (fun hT=>?_) (fun hF=>?_)
 case refine_2=>
  refine wp_exit ?_
  repeat first|refine bf ?_|refine ba ?_|refine az rfl ?_
  refine wp_seq (ai [(6,Vs O next.length cO)] (· = w3) af hS ?_ (fun a w4 hS hw=>?_))
  ·repeat refine zX rfl ?_
   exact aj ⟨⟨rfl,trivial⟩,rfl⟩
  subst hw;refine wp_ret ?_
  repeat first|refine a8 ?_|refine am ?_
  exact ret1 hS rfl rfl ⟨O,cO,out0,rfl,hR.mono hB.size,ak hB hK,hI.len,fun j=>hI.iff (hdone hF)⟩
 subst hT;clear hdone;refine wp_skip ?_;refine wp_block ?_;refine wp_seq (ai [(2,.slice gh hid.length ch),(3,Vp M),(7,Vs O next.length cO),(8,.bool false)] (· = w3) af hS ?_ (fun a w4 hS hw=>?_))
 ·repeat refine zX rfl ?_
  exact aj ⟨⟨rfl,rfl,rfl,rfl,trivial⟩,rfl⟩
 subst hw;refine wp_seq (ai [(2,.slice gh hid.length ch),(3,Vp M),(7,Vs O next.length cO),(8,.bool false),(9,Vi 0)] (· = w4) af hS ?_ (fun a w5 hS hw=>?_))
 ·repeat refine zX rfl ?_
  exact aj ⟨⟨rfl,rfl,rfl,rfl,rfl,trivial⟩,rfl⟩
 subst hw
 refine wp_block (cz hS (fun g E wr=>∃ (ag : Bool) (i : Nat) (out : List Bool),i ≤ next.length ∧ g = next.length - i ∧ E = [(2,.slice gh hid.length ch),(3,Vp M),(7,Vs O next.length cO),(8,.bool ag),(9,Vi i)] ∧ RowKit.Below wc.heap.size wc wr ∧ Rows wc.heap.size wr [oB (Vs O next.length cO) out] ∧ ClI L.toNat next hid set out ∧
   (ag = false → out = out0 ∧ ∀ j,j < i → zn L.toNat next hid out j L.toNat) ∧ (ag = true → ga out < ga out0))
  next.length ⟨false,0,out0,Nat.zero_le _,rfl,rfl,hK,hR,hI,fun _=>⟨rfl,fun j hj=>by omega⟩,fun h=>by cases h⟩ ?_)
 clear hK hR hI hS;rintro g1 E wr a1 ⟨ag,i,out,hi,rfl,rfl,hK,hR,hI,hstay,hless⟩ hS;refine wp_seq (wp_seq (ai [(2,.slice gh hid.length ch),(3,Vp M),(7,Vs O next.length cO),(8,.bool ag),(9,Vi i),(19,.bool (decide ((i : Int) < next.length)))] (· = wr) af hS ?_ (fun a w6 hS hw=>?_)))
 ·repeat refine zX rfl ?_
  refine zC rfl (rfl) ?_;exact aj ⟨⟨rfl,rfl,rfl,rfl,rfl,rfl,trivial⟩,rfl⟩
 subst hw;refine cond hS rfl (fun hT=>?_) (fun hF=>?_)
 case refine_2=>
  refine wp_exit ?_
  repeat first|refine bf ?_|refine ba ?_|refine az rfl ?_
  have hge : i = next.length:=by have:=of_decide_eq_false hF; omega
  subst hge;refine ay ?_;refine ⟨2 * ga out + (if ag = true then 1 else 0),_,?_,⟨ag,out,rfl,rfl,hK,hR,hI,fun h=>(hstay h).2⟩,hS.sub ⟨rfl,rfl,rfl,rfl,trivial⟩⟩
  cases ag with
  | false=>rw [(hstay rfl).1]; simp
  | true=>have:=hless rfl; simp; omega
 have hlt : i < next.length:=by have:=of_decide_eq_true hT; omega
 obtain ⟨hrl,hrv⟩:=hs.rows i hlt;refine wp_skip ?_;refine wp_seq (wp_block ?_);refine wp_seq (ai [(2,.slice gh hid.length ch),(3,Vp M),(7,Vs O next.length cO),(8,.bool ag),(9,Vi i),(10,Vi 0)] (· = w6) af hS ?_ (fun a w7 hS hw=>?_))
 ·repeat refine zX rfl ?_
  exact aj ⟨⟨rfl,rfl,rfl,rfl,rfl,rfl,trivial⟩,rfl⟩
 subst hw;have hL0:=hs.L0
 refine wp_block (cz hS (fun g E wr=>∃ (ag : Bool) (k : Nat) (out : List Bool),(k : Int) ≤ L ∧ g = L.toNat - k ∧ E = [(2,.slice gh hid.length ch),(3,Vp M),(7,Vs O next.length cO),(8,.bool ag),(9,Vi i),(10,Vi k)] ∧ RowKit.Below wc.heap.size wc wr ∧ Rows wc.heap.size wr [oB (Vs O next.length cO) out] ∧ ClI L.toNat next hid set out ∧
   (ag = false → out = out0 ∧ (∀ j,j < i → zn L.toNat next hid out j L.toNat) ∧ zn L.toNat next hid out i k) ∧ (ag = true → ga out < ga out0))
  L.toNat ⟨ag,0,out,hs.L0,rfl,rfl,hK,hR,hI,fun h=>⟨(hstay h).1,(hstay h).2,Nat.zero_le _,fun _ c hc=>by omega⟩,hless⟩ ?_)
 clear hK hR hI hS hstay hless;rintro g2 E wr a1 ⟨ag,k,out,hk,rfl,rfl,hK,hR,hI,hstay,hless⟩ hS;have hol:=hI.len;have hio : i < out.length:=by omega
 obtain ⟨b31,hb31⟩ : ∃ b,(decide ((k : Int) < L) && out.getD i false) = b:=⟨_,rfl⟩;refine wp_seq (wp_seq (ai [(2,.slice gh hid.length ch),(3,Vp M),(7,Vs O next.length cO),(8,.bool ag),(9,Vi i),(10,Vi k),(31,.bool b31)] (· = wr) af hS ?_ (fun a w8 hS hw=>?_)))
 ·repeat refine zX rfl ?_
  refine zL rfl ((hx.keep hK).c0) ?_
  cases e1 : decide ((k : Int) < L)
  case false=>
   rw [e1,Bool.false_and] at hb31; subst hb31;refine zC rfl (e1) ?_
   repeat refine zX rfl ?_
   exact aj ⟨⟨rfl,rfl,rfl,rfl,rfl,rfl,rfl,trivial⟩,rfl⟩
  case true=>
   rw [e1,Bool.true_and,List.getD_eq_getElem?_getD,List.getElem?_eq_getElem hio] at hb31; subst hb31;refine zC rfl (e1) ?_
   repeat refine zX rfl ?_
   refine zI rfl (rfl) (hlt) ?_;refine zL rfl (hR.cellB (i:=0) rfl hio) ?_
   repeat refine zX rfl ?_
   exact aj ⟨⟨rfl,rfl,rfl,rfl,rfl,rfl,rfl,trivial⟩,rfl⟩
 subst hw;refine cond hS rfl (fun hT=>?_) (fun hF=>?_)
 case refine_2=>
  refine wp_exit ?_
  repeat first|refine bf ?_|refine ba ?_|refine az rfl ?_
  have hend : ag = false → zn L.toNat next hid out i L.toNat:=fun h=>by
   obtain ⟨-,-,-,h3⟩:=hstay h;rw [hF,Bool.and_eq_false_iff] at hb31;refine ⟨Nat.le_refl _,fun ho c hc=>?_⟩
   rcases hb31 with h1 | h1
   ·have:=of_decide_eq_false h1
    exact h3 ho c (by omega)
   ·rw [ho] at h1; cases h1
  refine ay ?_;refine b4 ?_;refine ai [(2,.slice gh hid.length ch),(3,Vp M),(7,Vs O next.length cO),(8,.bool ag),(9,Vi (i + 1 : Nat))] (· = w8) af hS ?_ (fun a w9 hS hw=>?_)
  ·repeat refine zX rfl ?_
   refine zN rfl (ck (by omega)) ?_
   repeat refine zX rfl ?_
   exact aj ⟨⟨rfl,rfl,rfl,rfl,rfl,trivial⟩,rfl⟩
  subst hw;refine ⟨next.length - (i + 1),_,by omega,⟨ag,i + 1,out,hlt,rfl,rfl,hK,hR,hI,fun h=>⟨(hstay h).1,fun j hj=>?_⟩,hless⟩,hS⟩
  rcases Nat.lt_or_ge j i with h1 | h1
  ·exact (hstay h).2.1 j h1
  ·obtain rfl : j = i:=by omega
   exact hend h
 rw [hT,Bool.and_eq_true] at hb31;have hkL : (k : Int) < L:=of_decide_eq_true hb31.1;have hoi : out.getD i false = true:=hb31.2;have hkr : k < next[i].length:=by omega
 have hkh : k < hid.length:=by omega
 obtain ⟨t,ht⟩ : ∃ t,next[i][k] = t:=⟨_,rfl⟩;have htr:=hrv k hkr;rw [ht] at htr;have htg : tgtM next i k = t:=by rw [pw hlt hkr,ht]
 refine wp_skip ?_;refine wp_seq (wp_block ?_);refine wp_seq (ai [(2,.slice gh hid.length ch),(3,Vp M),(7,Vs O next.length cO),(8,.bool ag),(9,Vi i),(10,Vi k),(11,Vi t)] (· = w8) af hS ?_ (fun a w9 hS hw=>?_))
 ·obtain ⟨bn,on,cn,hvn,ar,cr,hc1,hc2⟩:=(hm.keep hK).cell hlt;obtain ⟨br,orr,rfl,hc3⟩:=hc2 k hkr;subst hvn;rw [ht] at hc3
  repeat refine zX rfl ?_
  refine zL rfl ((hx.keep hK).c2) ?_
  repeat refine zX rfl ?_
  refine zI rfl (rfl) (hlt) ?_;refine zL rfl (hc1) ?_
  repeat refine zX rfl ?_
  refine zI rfl (rfl) (hkr) ?_;refine zL rfl (hc3) ?_
  repeat refine zX rfl ?_
  exact aj ⟨⟨rfl,rfl,rfl,rfl,rfl,rfl,rfl,trivial⟩,rfl⟩
 subst hw;have hhk : hidB hid k = hid[k]:=by simp [hidB,hkh]
 obtain ⟨b56,hb56⟩ : ∃ b,(hid[k] && (decide (0 ≤ t) && !out.getD t.toNat false)) = b:=⟨_,rfl⟩;refine wp_seq (ai [(2,.slice gh hid.length ch),(3,Vp M),(7,Vs O next.length cO),(8,.bool ag),(9,Vi i),(10,Vi k),(11,Vi t),(56,.bool b56)] (· = w9) af hS ?_ (fun a w10 hS hw=>?_))
 ·obtain ⟨b,o,rfl,hc⟩:=hcell hK hkh
  cases e0 : hid[k]
  case false=>
   rw [e0,Bool.false_and] at hb56; subst hb56;rw [e0] at hc
   repeat refine zX rfl ?_
   refine zI rfl (rfl) (hkh) ?_;refine zL rfl (hc) ?_
   repeat refine zX rfl ?_
   exact aj ⟨⟨rfl,rfl,rfl,rfl,rfl,rfl,rfl,rfl,trivial⟩,rfl⟩
  rw [e0] at hc;rw [e0,Bool.true_and] at hb56
  cases e1 : decide (0 ≤ t)
  case false=>
   rw [e1,Bool.false_and] at hb56; subst hb56
   repeat refine zX rfl ?_
   refine zI rfl (rfl) (hkh) ?_;refine zL rfl (hc) ?_
   repeat refine zX rfl ?_
   refine zC rfl (e1) ?_
   repeat refine zX rfl ?_
   exact aj ⟨⟨rfl,rfl,rfl,rfl,rfl,rfl,rfl,rfl,trivial⟩,rfl⟩
  obtain ⟨tn,rfl⟩:=Int.eq_ofNat_of_zero_le (of_decide_eq_true e1);have htn : tn < out.length:=by omega
  rw [e1,Bool.true_and,Int.toNat_natCast,List.getD_eq_getElem?_getD,List.getElem?_eq_getElem htn] at hb56;have hb56 : (!out[tn]) = b56:=hb56;subst hb56
  repeat refine zX rfl ?_
  refine zI rfl (rfl) (hkh) ?_;refine zL rfl (hc) ?_
  repeat refine zX rfl ?_
  refine zC rfl (e1) ?_
  repeat refine zX rfl ?_
  refine zI rfl (rfl) ((by omega : tn < next.length)) ?_;refine zL rfl (hR.cellB (i:=0) rfl htn) ?_
  repeat refine zX rfl ?_
  exact aj ⟨⟨rfl,rfl,rfl,rfl,rfl,rfl,rfl,rfl,trivial⟩,rfl⟩
 subst hw
 refine cut (F:=fun a' w'=>∃ (ag' : Bool) (out' : List Bool),St Tryz.f19.ntmps a' [(2,.slice gh hid.length ch),(3,Vp M),(7,Vs O next.length cO),(8,.bool ag'),(9,Vi i),(10,Vi k)] ∧ RowKit.Below wc.heap.size wc w' ∧ Rows wc.heap.size w' [oB (Vs O next.length cO) out'] ∧ ClI L.toNat next hid set out' ∧
   (ag' = false → out' = out0 ∧ (∀ j,j < i → zn L.toNat next hid out' j L.toNat) ∧ zn L.toNat next hid out' i (k + 1)) ∧ (ag' = true → ga out' < ga out0)) ?_ ?_
 ·refine cond hS rfl (fun hT=>?_) (fun hF=>?_)
  ·rw [hT,Bool.and_eq_true,Bool.and_eq_true] at hb56;obtain ⟨tn,rfl⟩:=Int.eq_ofNat_of_zero_le (of_decide_eq_true hb56.2.1);have htn : tn < next.length:=by omega
   have hto : tn < out.length:=by omega
   have hof : out.getD tn false = false:=by simpa using hb56.2.2
   refine wp_seq (ai [(2,.slice gh hid.length ch),(3,Vp M),(7,Vs O next.length cO),(8,.bool ag),(9,Vi i),(10,Vi k)] (· = w10.setCell ⟨O,0 + tn,none⟩ (.bool true)) af hS ?_ (fun a w11 hS hw=>?_))
   ·repeat refine zX rfl ?_
    refine zI rfl (rfl) (htn) ?_;refine zS rfl rfl (hR.cellB (i:=0) rfl hto) (hR.freeI (i:=0) rfl tn) ?_;exact aj ⟨⟨rfl,rfl,rfl,rfl,rfl,rfl,trivial⟩,rfl⟩
   obtain ⟨hR10,hg10⟩:=hR.storeB (i:=0) rfl tn true;have hK10:=a6 hK hg10 (fun q hq=>by cases hq; exact (hR.lt (i:=0) rfl rfl).1);rw [← hw] at hR10 hK10;clear hw hg10;refine ai [(2,.slice gh hid.length ch),(3,Vp M),(7,Vs O next.length cO),(8,.bool true),(9,Vi i),(10,Vi k)] (· = w11) af hS ?_ (fun a w12 hS hw=>?_)
   ·repeat refine zX rfl ?_
    exact aj ⟨⟨rfl,rfl,rfl,rfl,rfl,rfl,trivial⟩,rfl⟩
   subst hw;have hf:=qm hto hof;refine ⟨true,out.set tn true,hS,hK10,hR10,hI.add (c:=k) hoi (by omega) (by rw [hhk]; exact hb56.1) htg,(fun h=>by cases h),(fun _=>?_)⟩
   cases ag with
   | false=>rw [← (hstay rfl).1]; omega
   | true=>have:=hless rfl; omega
  ·refine wp_skip ⟨ag,out,hS.sub ⟨rfl,rfl,rfl,rfl,rfl,rfl,trivial⟩,hK,hR,hI,fun h=>⟨(hstay h).1,(hstay h).2.1,by omega,fun ho c hc hh q hq=>?_⟩,hless⟩
   rcases Nat.lt_or_ge c k with h1 | h1
   ·exact (hstay h).2.2.2 ho c h1 hh q hq
   ·obtain rfl : c = k:=by omega
    rw [htg] at hq;subst hq;rw [hhk] at hh;rw [hF,hh,decide_eq_true (by omega),Bool.true_and,Bool.true_and] at hb56
    simpa using hb56
 rintro a w11 ⟨ag',out',hS,hK',hR',hI',hstay',hless'⟩;refine ay ?_;refine b4 ?_;refine ai [(2,.slice gh hid.length ch),(3,Vp M),(7,Vs O next.length cO),(8,.bool ag'),(9,Vi i),(10,Vi (k + 1 : Nat))] (· = w11) af hS ?_ (fun a w12 hS hw=>?_)
 ·have hL:=hm.L.2
  repeat refine zX rfl ?_
  refine zN rfl (ck (by omega)) ?_
  repeat refine zX rfl ?_
  exact aj ⟨⟨rfl,rfl,rfl,rfl,rfl,rfl,trivial⟩,rfl⟩
 subst hw;exact ⟨L.toNat - (k + 1),_,by omega,⟨ag',k + 1,out',by omega,rfl,rfl,hK',hR',hI',hstay',hless'⟩,hS⟩
end
section
open Go Sym
def PBs (w : World) (v : Value) (r : List Bool) : Prop:=Sl w v r je
theorem PBs.keep {w w' : World} (hb : RowKit.Below w.heap.size w w') {v : Value} {r : List Bool} (h : PBs w v r) : PBs w' v r:=Sl.keep hb (fun _ _ h=>h) h
theorem nw {w : World} {v : Value} {r : List Bool} (h : Sl w v r je) {k : Nat} (hk : k < r.length) : ∃ b o c,v = .slice (some ⟨b,o,none⟩) r.length c ∧ w.cell? ⟨b,o + k,none⟩ = some (.bool r[k]):=by
 obtain ⟨a,b,o,c,rfl,h1,-,-,h4⟩:=h;obtain rfl:=h1 (by omega);obtain ⟨x,hx,rfl⟩:=h4 k hk;exact ⟨b,o,c,rfl,hx⟩
theorem afx {w : World} {v : Value} {l : List (List Bool)} (h : Sl w v l PBs) {i : Nat} (hi : i < l.length) : ∃ b o c u,v = .slice (some ⟨b,o,none⟩) l.length c ∧ w.cell? ⟨b,o + i,none⟩ = some u ∧ Sl w u l[i] je:=by
 obtain ⟨a,b,o,c,rfl,h1,-,-,h4⟩:=h;obtain rfl:=h1 (by omega);obtain ⟨x,hx,hp⟩:=h4 i hi;exact ⟨b,o,c,x,rfl,hx,hp⟩
theorem aih (vl vs : Value) (l : List (List Bool)) (s : List Bool) (w : World) (hl : Sl w vl l PBs) (hs : Sl w vs s je) (hlen : ∀ r ∈ l,r.length = s.length) :
  Calls Tryz.prog 20 #[vl,vs] w fun e w'=>∃ r : Int,e = .returned (Vi r) ∧ RowKit.Below w.heap.size w w' ∧ ((r = -1 ∧ s ∉ l) ∨ ∃ (i : Nat) (hi : i < l.length),r = i ∧ l[i] = s):=by
 refine Sym.c8 (args:=[vl,vs]) Tryz.func20 rfl rfl rfl (fun a0 hS0=>?_);obtain ⟨al,bl,ol,cl,rfl,l1,l2,l3,-⟩:=id hl;obtain ⟨as_,bs,os,cs,rfl,s1,s2,s3,-⟩:=id hs;refine wp_seq (ai [(0,.slice al l.length cl),(1,.slice as_ s.length cs)] (· = w) af hS0 ?_ (fun a w1 hS hw=>?_))
 ·repeat refine zX rfl ?_
  exact aj ⟨⟨rfl,rfl,trivial⟩,rfl⟩
 subst hw;refine wp_seq (wp_seq (ai [(0,.slice al l.length cl),(1,.slice as_ s.length cs),(5,Vi (0 : Nat))] (· = w1) af hS ?_ (fun a w2 hS hw=>?_)))
 ·repeat refine zX rfl ?_
  exact aj ⟨⟨rfl,rfl,rfl,trivial⟩,rfl⟩
 subst hw;refine wp_block (cz hS (fun g E wr=>∃ i : Nat,i ≤ l.length ∧ g = l.length - i ∧ E = [(0,.slice al l.length cl),(1,.slice as_ s.length cs),(5,Vi i)] ∧ RowKit.Below w2.heap.size w2 wr ∧ ∀ j (hj : j < l.length),j < i → l[j] ≠ s) l.length ⟨0,Nat.zero_le _,rfl,rfl,RowKit.Below.refl _ _,fun j _ h=>by omega⟩ ?_);rintro g E wr a1 ⟨i,hi,rfl,rfl,hK,hno⟩ hS;refine wp_seq (wp_seq (ai [(0,.slice al l.length cl),(1,.slice as_ s.length cs),(5,Vi i),(11,.bool (decide ((i : Int) < l.length)))] (· = wr) af hS ?_ (fun a w3 hS hw=>?_)))
 ·repeat refine zX rfl ?_
  refine zC rfl (rfl) ?_;exact aj ⟨⟨rfl,rfl,rfl,rfl,trivial⟩,rfl⟩
 subst hw;refine cond hS rfl (fun hT=>wp_skip ?_) (fun hF=>?_)
 case refine_2=>
  refine wp_exit ?_
  repeat first|refine bf ?_|refine ba ?_|refine az rfl ?_
  refine wp_seq (ai [(4,Vi (-1))] (· = w3) af hS ?_ (fun a w4 hS hw=>?_))
  ·repeat refine zX rfl ?_
   exact aj ⟨⟨rfl,trivial⟩,rfl⟩
  subst hw;have hge : l.length ≤ i:=by have:=of_decide_eq_false hF; omega
  refine wp_ret ?_
  repeat first|refine a8 ?_|refine am ?_
  exact ret1 hS rfl rfl ⟨-1,rfl,hK,.inl ⟨rfl,fun hm=>by
   obtain ⟨j,hj,e⟩:=List.mem_iff_getElem.1 hm;exact hno j hj (by omega) e⟩⟩
 have hlt : i < l.length:=by have:=of_decide_eq_true hT; omega
 have hri:=hlen l[i] (List.getElem_mem hlt);refine wp_seq (wp_block ?_);refine wp_seq (ai [(0,.slice al l.length cl),(1,.slice as_ s.length cs),(5,Vi i),(6,.bool true)] (· = w3) af hS ?_ (fun a w4 hS hw=>?_))
 ·repeat refine zX rfl ?_
  exact aj ⟨⟨rfl,rfl,rfl,rfl,trivial⟩,rfl⟩
 subst hw;refine wp_seq (wp_seq (ai [(0,.slice al l.length cl),(1,.slice as_ s.length cs),(5,Vi i),(6,.bool true),(7,Vi (0 : Nat))] (· = w4) af hS ?_ (fun a w5 hS hw=>?_)))
 ·repeat refine zX rfl ?_
  exact aj ⟨⟨rfl,rfl,rfl,rfl,rfl,trivial⟩,rfl⟩
 subst hw;refine wp_block (cz hS (fun g E wr=>∃ (k : Nat) (sm : Bool),k ≤ s.length ∧ g = s.length - k ∧ E = [(0,.slice al l.length cl),(1,.slice as_ s.length cs),(5,Vi i),(6,.bool sm),(7,Vi k)] ∧ RowKit.Below w2.heap.size w2 wr ∧ (sm = true ↔ ∀ j,j < k → l[i].getD j false = s.getD j false)) s.length ⟨0,true,Nat.zero_le _,rfl,rfl,hK,by simp⟩ ?_);clear hK hS;rintro g E wr a1 ⟨k,sm,hk,rfl,rfl,hK,hsm⟩ hS;refine wp_seq (wp_seq (ai [(0,.slice al l.length cl),(1,.slice as_ s.length cs),(5,Vi i),(6,.bool sm),(7,Vi k),(17,.bool (decide ((k : Int) < s.length)))] (· = wr) af hS ?_ (fun a w6 hS hw=>?_)))
 ·repeat refine zX rfl ?_
  refine zC rfl (rfl) ?_;exact aj ⟨⟨rfl,rfl,rfl,rfl,rfl,rfl,trivial⟩,rfl⟩
 subst hw;refine cond hS rfl (fun hT2=>wp_skip ?_) (fun hF=>?_)
 case refine_2=>
  refine wp_exit ?_
  repeat first|refine bf ?_|refine ba ?_|refine az rfl ?_
  have hge : s.length = k:=by have:=of_decide_eq_false hF; omega
  have key : sm = true ↔ l[i] = s:=by
   rw [hsm];refine ⟨fun h=>List.ext_getElem hri fun j h1 h2=>?_,fun h j _=>by rw [h]⟩
   have:=h j (by omega)
   simpa [List.getD_eq_getElem?_getD,h1,h2] using this
  refine wp_seq (ai [(0,.slice al l.length cl),(1,.slice as_ s.length cs),(5,Vi i),(35,.bool sm)] (· = w6) af hS ?_ (fun a w7 hS hw=>?_))
  ·repeat refine zX rfl ?_
   exact aj ⟨⟨rfl,rfl,rfl,rfl,trivial⟩,rfl⟩
  subst hw;refine cond hS rfl (fun hT3=>?_) (fun hF3=>wp_skip ?_)
  ·refine wp_seq (ai [(4,Vi i)] (· = w7) af hS ?_ (fun a w8 hS hw=>?_))
   ·repeat refine zX rfl ?_
    exact aj ⟨⟨rfl,trivial⟩,rfl⟩
   subst hw;refine wp_ret ?_
   repeat first|refine a8 ?_|refine am ?_
   exact ret1 hS rfl rfl ⟨i,rfl,hK,.inr ⟨i,hlt,rfl,key.1 hT3⟩⟩
  refine ay ?_;refine b4 ?_;refine ai [(0,.slice al l.length cl),(1,.slice as_ s.length cs),(5,Vi (i + 1 : Nat))] (· = w7) af hS ?_ (fun a w8 hS hw=>?_)
  ·repeat refine zX rfl ?_
   refine zN rfl (ck (by omega)) ?_
   repeat refine zX rfl ?_
   exact aj ⟨⟨rfl,rfl,rfl,trivial⟩,rfl⟩
  subst hw;refine ⟨l.length - (i + 1),_,by omega,⟨i + 1,hlt,rfl,rfl,hK,fun j hj h=>?_⟩,hS⟩
  rcases Nat.lt_or_ge j i with h1 | h1
  ·exact hno j hj h1
  ·obtain rfl : j = i:=by omega
   intro e;rw [key.2 e] at hF3
   cases hF3
 have hks : k < s.length:=by have:=of_decide_eq_true hT2; omega
 have hkr : k < l[i].length:=by omega
 obtain ⟨b1,o1,c1,u,e1,hu,hru⟩:=afx (hl.keep hK (fun _ _ h=>PBs.keep hK h)) hlt;obtain ⟨b2,o2,c2,e2,hc2⟩:=nw hru hkr;obtain ⟨b3,o3,c3,e3,hc3⟩:=nw (hs.keep hK (fun _ _ h=>h)) hks;simp only [Value.slice.injEq,true_and] at e1 e3;obtain ⟨rfl,rfl⟩:=e1;obtain ⟨rfl,rfl⟩:=e3;subst e2;refine wp_seq (wp_block ?_);refine b6 [(0,.slice (some ⟨b1,o1,none⟩) l.length cl),(1,.slice (some ⟨b3,o3,none⟩) s.length cs),(5,Vi i),(6,.bool (sm && (l[i][k] == s[k]))),(7,Vi k)] af dc (by kernel_rfl) hS ?_ (fun a w7 hS hw=>?_)
 ·cases sm
  ·repeat refine qX rfl ?_
   exact fa ⟨rfl,rfl,rfl,rfl,rfl,trivial⟩
  ·repeat refine qX rfl ?_
   refine qI rfl (rfl) (hlt) ?_;refine qL rfl (hu) ?_
   repeat refine qX rfl ?_
   refine qI rfl (rfl) (hkr) ?_;refine qL rfl (hc2) ?_
   repeat refine qX rfl ?_
   refine qI rfl (rfl) (hks) ?_;refine qL rfl (hc3) ?_;refine qC rfl (rfl) ?_
   repeat refine qX rfl ?_
   exact fa ⟨rfl,rfl,rfl,rfl,rfl,trivial⟩
 refine ay ?_;refine b4 ?_;refine ai [(0,.slice (some ⟨b1,o1,none⟩) l.length cl),(1,.slice (some ⟨b3,o3,none⟩) s.length cs),(5,Vi i),(6,.bool (sm && (l[i][k] == s[k]))),(7,Vi (k + 1 : Nat))] (· = w7) af hS ?_ (fun a w8 hS hw3=>?_)
 ·repeat refine zX rfl ?_
  refine zN rfl (ck (by omega)) ?_
  repeat refine zX rfl ?_
  exact aj ⟨⟨rfl,rfl,rfl,rfl,rfl,trivial⟩,rfl⟩
 subst hw3;refine ⟨s.length - (k + 1),_,by omega,⟨k + 1,_,hks,rfl,rfl,ak hK hw,?_⟩,hS⟩;rw [Bool.and_eq_true,hsm,beq_iff_eq]
 constructor
 ·rintro ⟨h1,h2⟩ j hj
  rcases Nat.lt_or_ge j k with h3 | h3
  ·exact h1 j h3
  ·obtain rfl : j = k:=by omega
   simpa [List.getD_eq_getElem?_getD,hkr,hks] using h2
 ·intro h;refine ⟨fun j hj=>h j (by omega),?_⟩
  simpa [List.getD_eq_getElem?_getD,hkr,hks] using h k (by omega)
end
section
open Go Sym
theorem yz : bk Tryz.prog 55 = true:=by kernel_rfl
theorem ag2 : bk Tryz.prog 56 = true:=by kernel_rfl
theorem ag1 : bk Tryz.prog 57 = true:=by kernel_rfl
theorem tc : bk Tryz.prog 22 = true:=by kernel_rfl
section
variable {base : Nat} {w0 w : World}
abbrev leR (pv gv sv pb b L tot : Nat) (p : Pt) (g : GP) (V : PV) (GVa : GV) : List Ow:=
 [oX 70 pv 1 [Vp pb],oX 68 gv 1 [Vp b],oX 103 sv 1 [.func (.func 55) #[] #[Vp pv]]] ++ (ptR pb p V ++ (grR b L tot g GVa ++ []))
variable {pv gv sv pb b L tot : Nat} {p : Pt} {g : GP} {V : PV} {GVa : GV} {lev : Nat → Nat → Nat} {R : Nat}
theorem uz (h : Hold base w0 w (leR pv gv sv pb b L tot p g V GVa)) (hR : RefS L (tot + 1) g.nx g.en p lev R) (hN : tot ≤ 10000) {y : Nat} (hy : y < p.bs.length) :
  Calls Tryz.prog 55 #[Vi y,Vp pv] w fun e w'=>e = .returned (Vi (repB p y : Int)) ∧ RowKit.Below w.heap.size w w':=by
 obtain ⟨r1,-,r3⟩:=ld hR hy;have hst:=hR.pi.st;obtain ⟨vst,vpl,vbl,vbs,vcs,vml⟩:=V;obtain ⟨gst,cst,rfl,-⟩:=h.r.nilOr (i:=4) rfl (by omega);obtain ⟨gbs,cbs,rfl,-⟩:=h.r.nilOr (i:=7) rfl (by omega);refine Sym.c8 (args:=[Vi y,Vp pv]) Tryz.func55 rfl rfl rfl (fun a0 hS0=>?_);refine wp_seq (ai [(0,Vi y),(1,Vp pv)] (· = w) af hS0 ?_ (fun a w1 hS hw=>?_))
 ·repeat refine zX rfl ?_
  exact aj ⟨⟨rfl,rfl,trivial⟩,rfl⟩
 subst hw;refine wp_seq (b6 [(3,Vi (repB p y : Int))] af dc (by kernel_rfl) hS ?_ (fun a w2 hS hw=>?_))
 ·repeat refine qX rfl ?_
  refine qL rfl (h.r.xcell (i:=0) rfl (j:=0) rfl) ?_
  repeat refine qX rfl ?_
  refine qL rfl (h.r.xcell (i:=3) rfl (j:=0) rfl) ?_;refine qL rfl (h.r.xcell (i:=0) rfl (j:=0) rfl) ?_
  repeat refine qX rfl ?_
  refine qL rfl (h.r.xcell (i:=3) rfl (j:=3) rfl) ?_
  repeat refine qX rfl ?_
  refine qI rfl (rfl) (hy) ?_;refine qP rfl ?_;refine qL rfl (h.r.cK0 (i:=7) rfl hy) ?_;refine qI rfl (rfl) ((by omega)) ?_;refine qL rfl (h.r.cS (i:=4) rfl (j:=(gb p.bs y).first) (by omega)) ?_;refine qN rfl (lg _ (by show repB p y ≤ _; omega)) ?_
  repeat refine qX rfl ?_
  exact fa ⟨rfl,trivial⟩
 refine wp_ret ?_
 repeat first|refine a8 ?_|refine am ?_
 exact ret1 hS rfl rfl ⟨rfl,hw⟩
theorem ado (h : Hold base w0 w (leR pv gv sv pb b L tot p g V GVa)) (hR : RefS L (tot + 1) g.nx g.en p lev R) (hg : Gr (tot + 1) L g.nx g.en) (hN : tot ≤ 10000) (hL : L ≤ 300) {y c : Nat} (hy : y < p.bs.length) (hc : c < L) :
  Calls Tryz.prog 56 #[Vi y,Vi c,Vp pv,Vp gv,Vp sv] w fun e w'=>e = .returned (Vi (gt p.bl (dlG g.nx L (repB p y) c) : Int)) ∧ RowKit.Below w.heap.size w w':=by
 obtain ⟨r1,-,r3⟩:=ld hR hy;have hbl:=hR.pi.bl;have hd:=hg.lt _ c r1 hc;have hdl : dlG g.nx L (repB p y) c < tot + 1:=hd;have hlen:=hg.len;have hidx : repB p y * L + c < g.nx.length:=by rw [hlen]; exact acb r1 hc
 have hnx : g.nx.length ≤ 1000000000:=by
  rw [hlen]
  have:=Nat.mul_le_mul (show tot + 1 ≤ 10001 by omega) hL
  omega
 have hst1:=fun w1 (h1 : RowKit.Below w.heap.size w w1)=>uz (h.below h1) hR hN hy;have hgf:=fun w1 (h1 : RowKit.Below w.heap.size w w1)=>ky (rest:=[]) (s:=repB p y) (c:=c) (h.below h1).drop.drop hidx hnx (by omega);obtain ⟨vst,vpl,vbl,vbs,vcs,vml⟩:=V;obtain ⟨gbl,cbl,rfl,-⟩:=h.r.nilOr (i:=6) rfl (by omega);refine Sym.c8 (args:=[Vi y,Vi c,Vp pv,Vp gv,Vp sv]) Tryz.func56 rfl rfl rfl (fun a0 hS0=>?_);refine wp_seq (ai [(0,Vi y),(1,Vi c),(2,Vp pv),(3,Vp gv),(4,Vp sv)] (· = w) af hS0 ?_ (fun a w1 hS hw=>?_))
 ·repeat refine zX rfl ?_
  exact aj ⟨⟨rfl,rfl,rfl,rfl,rfl,trivial⟩,rfl⟩
 subst hw;refine wp_seq (b6 [(7,Vi (gt p.bl (dlG g.nx L (repB p y) c) : Int))] af dc (by kernel_rfl) hS ?_ (fun a w2 hS hw=>?_))
 ·repeat refine qX rfl ?_
  refine qL rfl (h.r.xcell (i:=0) rfl (j:=0) rfl) ?_
  repeat refine qX rfl ?_
  refine qL rfl (h.r.xcell (i:=3) rfl (j:=2) rfl) ?_;refine qL rfl (h.r.xcell (i:=1) rfl (j:=0) rfl) ?_;refine qL rfl (h.r.xcell (i:=2) rfl (j:=0) rfl) ?_
  repeat refine qX rfl ?_
  refine qF (Vi (repB p y : Int)) rfl (yz) (hst1) ?_
  repeat refine qX rfl ?_
  refine qF (Vi (dlG g.nx L (repB p y) c : Int)) rfl (m0) (hgf) ?_;refine qI rfl (rfl) ((by omega)) ?_;refine qL rfl (h.r.cN (i:=6) rfl (j:=dlG g.nx L (repB p y) c) (by omega)) ?_
  repeat refine qX rfl ?_
  exact fa ⟨rfl,trivial⟩
 refine wp_ret ?_
 repeat first|refine a8 ?_|refine am ?_
 exact ret1 hS rfl rfl ⟨rfl,hw⟩
theorem adn (h : Hold base w0 w (leR pv gv sv pb b L tot p g V GVa)) (hR : RefS L (tot + 1) g.nx g.en p lev R) (hg : Gr (tot + 1) L g.nx g.en) (hN : tot ≤ 10000) {y : Nat} (hy : y < p.bs.length) :
  Calls Tryz.prog 57 #[Vi y,Vp gv,Vp sv] w fun e w'=>e = .returned (.bool ((quoF g.en p).getD y false)) ∧ RowKit.Below w.heap.size w w':=by
 rw [afn hR hy];obtain ⟨r1,-,r3⟩:=ld hR hy;have henl:=hg.enl;have hst1:=fun w1 (h1 : RowKit.Below w.heap.size w w1)=>uz (h.below h1) hR hN hy;obtain ⟨gst,gnx,gen⟩:=GVa;obtain ⟨ge,ce,rfl,-⟩:=h.r.nilOr (i:=13) rfl (by omega);refine Sym.c8 (args:=[Vi y,Vp gv,Vp sv]) Tryz.func57 rfl rfl rfl (fun a0 hS0=>?_);refine wp_seq (ai [(0,Vi y),(1,Vp gv),(2,Vp sv)] (· = w) af hS0 ?_ (fun a w1 hS hw=>?_))
 ·repeat refine zX rfl ?_
  exact aj ⟨⟨rfl,rfl,rfl,trivial⟩,rfl⟩
 subst hw;refine wp_seq (b6 [(4,.bool (enG g.en (repB p y)))] af dc (by kernel_rfl) hS ?_ (fun a w2 hS hw=>?_))
 ·repeat refine qX rfl ?_
  refine qL rfl (h.r.xcell (i:=1) rfl (j:=0) rfl) ?_
  repeat refine qX rfl ?_
  refine qL rfl (h.r.xcell (i:=10) rfl (j:=3) rfl) ?_;refine qL rfl (h.r.xcell (i:=2) rfl (j:=0) rfl) ?_
  repeat refine qX rfl ?_
  refine qF (Vi (repB p y : Int)) rfl (yz) (hst1) ?_;refine qI rfl (rfl) ((by omega)) ?_;refine qL rfl (h.r.cB (i:=13) rfl (j:=repB p y) (by omega)) ?_
  repeat refine qX rfl ?_
  exact fa ⟨rfl,trivial⟩
 refine wp_ret ?_
 repeat first|refine a8 ?_|refine am ?_
 exact ret1 hS rfl rfl ⟨rfl,hw⟩
end
theorem af3 {L s : Int} {n1 : List (List Int)} {f1 : List Bool} (h1 : Shape L s n1 f1) : ∃ x,(layG L.toNat [⟨s,n1,f1⟩]).st = [x] ∧ Gr (n1.length + 1) L.toNat (layG L.toNat [⟨s,n1,f1⟩]).nx (layG L.toNat [⟨s,n1,f1⟩]).en ∧ x < n1.length + 1 ∧
  (∀ w,Word L.toNat w → enG (layG L.toNat [⟨s,n1,f1⟩]).en (rnG (dlG (layG L.toNat [⟨s,n1,f1⟩]).nx L.toNat) x w) = accM n1 f1 s w) ∧
  ∀ w,Word L.toNat w → enG (layG L.toNat [⟨s,n1,f1⟩]).en (rnG (dlG (layG L.toNat [⟨s,n1,f1⟩]).nx L.toNat) n1.length w) = false:=by
 obtain ⟨k1,k2⟩:=jw h1;obtain ⟨nx,en,e,l1,l2,d1,hle⟩:=lay_one k1 k2;have hL : ((L.toNat : Nat) : Int) = L:=by have:=h1.L0; omega
 have h1' : Shape ((L.toNat : Nat) : Int) s n1 f1:=by rw [hL]; exact h1
 have t1:=sq (m:=⟨s,n1,f1⟩) h1' d1 l1 l2;rw [e];refine ⟨_,rfl,gr_of l1 l2 hle,?_,fun w hw=>t1 w s h1.s1 h1.s2 hw,fun w hw=>?_⟩
 ·have:=h1.s2
  have:=h1.s1
  show plG n1.length 0 s < _;unfold plG; split <;> omega
 ·have:=t1 w (-1) (by omega) (by show (-1 : Int) < (n1.length : Int); omega) hw
  rw [show plG n1.length 0 (-1) = n1.length from rfl] at this
  rw [this]; exact di _ _ _ (by omega)
theorem MsIn.one {w : World} {Bm : Nat} {L s1 : Int} {vn1 ve1 : Value} {n1 : List (List Int)} {f1 : List Bool} (hm : Ma w L s1 n1 f1 vn1 ve1)
  (hc : ca w.cell? Bm 0 [Vi L,Vi s1,vn1,ve1]) : MsIn w Bm L [⟨s1,n1,f1⟩]:=fun j hj=>by
 obtain ⟨c0,c1,c2,c3,_⟩:=hc
 match j,hj with
 | 0,_=>exact ⟨vn1,ve1,⟨c0,c1,c2,c3,trivial⟩,hm⟩
theorem fill4m (a b c d : Value) (cs : Array Value) : Instr.fill (fun i=>some (i * 4,4)) (madeCells cs (1 * 4)) [(0,.agg #[a,b,c,d])] = some #[a,b,c,d]:=by
 have hz : (madeCells cs (1 * 4)).size = 4:=by simp [madeCells]
 generalize madeCells cs (1 * 4) = z at hz ⊢
 obtain ⟨l⟩:=z
 match l,hz with
 | [_,_,_,_],_=>
   have h1 : (Value.agg #[a,b,c,d]).cells = #[a,b,c,d]:=rfl;simp [Instr.fill,h1]
theorem Hold.rebase {base base' : Nat} {w0 w00 w : World} {l : List Ow} (h : Hold base w0 w l) (hb : base' ≤ base) (hB : RowKit.Below base' w00 w) (hs : base' ≤ w.heap.size) : Hold base' w00 w l:=
 ⟨⟨fun i o hi=>ez (h.r.1 i o hi) hb,h.r.2⟩,hB,hs⟩
theorem quo_cap {L n nb x0 : Nat} {s0 : Int} {next : List (List Int)} {fin : List Bool} {F : FS} (hs : Shape (L : Int) s0 next fin) (hn : next.length = n) (hx : x0 < n) (hnb : nb < n) (ht : ∀ b c,b < n → c < L → ∃ z : Nat,z < n ∧ tgtM next (b : Int) c = cd nb z) (hF : d7 (cd nb x0) next L = F) : F.rows.length + 1 ≤ n:=by
 have hc:=ul (nb:=nb) hx
 have hFo : Found (cd nb x0) next L F:=by
  rw [← hF]; exact io hs hc.1 (by rw [hn]; exact hc.2)
 have hok:=hFo.inn.ok;rw [hn] at hok
 have cdv : ∀ z : Nat,z < n → 0 ≤ cd nb z → cd nb z ≠ (nb : Int) ∧ cd nb z < n:=fun z hz h0=>by
  unfold cd at h0 ⊢
  split at h0
  ·omega
  ·rename_i hne;rw [if_neg hne];omega
 have key : ∀ z ∈ F.rows,z ≠ (nb : Int) ∧ 0 ≤ z ∧ z < n:=by
  rw [js (by rw [hn]; exact hc.2) hc.1] at hF;rw [← hF];refine abu (L:=L) (P:=fun z=>z ≠ (nb : Int) ∧ 0 ≤ z ∧ z < n) ?_ _ _ _ ?_
  ·rintro r ⟨-,r0,r1⟩ c hc' hp;obtain ⟨k,rfl⟩:=Int.eq_ofNat_of_zero_le r0;obtain ⟨z,hz,e⟩:=ht k c (by omega) hc';rw [e] at hp ⊢;exact ⟨(cdv z hz hp).1,hp,(cdv z hz hp).2⟩
  ·intro z hz;rw [FS.num] at hz
   split at hz
   ·rename_i h0;simp only [FS.none,List.nil_append,List.mem_singleton] at hz;subst hz;exact ⟨(cdv x0 hx h0.1).1,h0.1,(cdv x0 hx h0.1).2⟩
   ·simp [FS.none] at hz
 have hd : ((nb : Int) :: F.rows).Nodup:=List.nodup_cons.2 ⟨fun h=>(key _ h).1 rfl,hok.d⟩
 have:=hd.length_le_of_subset (l₂:=(List.range n).map (fun (i : Nat)=>(i : Int))) (fun x hx=>by
  rcases List.mem_cons.1 hx with rfl | hx
  ·exact List.mem_map.2 ⟨nb,List.mem_range.2 hnb,rfl⟩
  ·obtain ⟨-,a,b⟩:=key x hx;exact List.mem_map.2 ⟨x.toNat,List.mem_range.2 (by omega),by omega⟩)
 simpa using this
theorem sl {w wc : World} {L s : Int} {vn ve : Value} (hw : wc = (w.alloc (.cells #[Vi L,Vi s,vn,ve] 25)).alloc (.cells #[Vi 0,Vi 0,.slice none 0 0,.slice none 0 0] 25)) : RowKit.Below w.heap.size w wc ∧ Box wc w.heap.size L s vn ve ∧ Hold (w.heap.size + 1) (w.alloc (.cells #[Vi L,Vi s,vn,ve] 25)) wc [oX 25 (w.heap.size + 1) 4 [Vi 0,Vi 0,.slice none 0 0,.slice none 0 0]]:=by
 obtain ⟨h1,h2⟩:=l6 (w:=w) (wc:=w.alloc (.cells #[Vi L,Vi s,vn,ve] 25)) rfl;have h3:=ao (w.alloc (.cells #[Vi L,Vi s,vn,ve] 25)) (.cells #[Vi 0,Vi 0,.slice none 0 0,.slice none 0 0] 25);have h4:=(Hold.start (w.alloc (.cells #[Vi L,Vi s,vn,ve] 25))).box (T:=25) (k:=4) #[Vi 0,Vi 0,.slice none 0 0,.slice none 0 0] rfl;rw [← hw] at h3 h4;rw [b5] at h4;exact ⟨ak h1 h3,h2.keep h3,h4⟩
set_option maxHeartbeats 4000000 in
theorem qv (L s : Int) (vn ve : Value) (next : List (List Int)) (fin : List Bool) (w : World) (hm : Ma w L s next fin vn ve) (hv : de L s next fin = 0) (h100 : next.length ≤ 4000) :
  Calls Tryz.prog 22 #[.agg #[Vi L,Vi s,vn,ve]] w fun e w'=>∃ (s' : Int) (vn' ve' : Value) (vs : List Value) (n' : List (List Int)) (f' : List Bool),e = .returned (.tuple #[.agg #[Vi L,Vi s',vn',ve'],Vi 0]) ∧ I64 s' ∧ vs.length = n'.length ∧ (∀ l ∈ n',∀ x ∈ l,I64 x) ∧ Hold w.heap.size w w' (oB ve' f' :: (dk vn' vs n' ++ [])) ∧ Canon L s' n' f' ∧ dq L.toNat n' f' s' next fin s:=by
 refine Sym.c8 (args:=[.agg #[Vi L,Vi s,vn,ve]]) Tryz.func22 rfl rfl rfl (fun a0 hS0=>?_);obtain ⟨B,hBB⟩ : ∃ B,B = w.heap.size:=⟨_,rfl⟩;refine wp_seq (ai [(1,Vp B),(2,Vp (B + 1))] (· = (w.alloc (.cells #[Vi L,Vi s,vn,ve] 25)).alloc (.cells #[Vi 0,Vi 0,.slice none 0 0,.slice none 0 0] 25)) af hS0 ?_ (fun a wc hS hw=>?_))
 ·subst hBB;refine zB rfl ?_;refine zB rfl ?_;rw [b5]
  repeat refine zX rfl ?_
  exact aj ⟨⟨rfl,rfl,trivial⟩,rfl⟩
 obtain ⟨hB,hx,h⟩:=sl hw;rw [← hBB] at hx h;obtain ⟨wb,hwb⟩ : ∃ wb,wb = w.alloc (.cells #[Vi L,Vi s,vn,ve] 25):=⟨_,rfl⟩;have hxb : RowKit.Below w.heap.size w wb ∧ Box wb w.heap.size L s vn ve:=l6 hwb;have hbs : wb.heap.size = B + 1:=by rw [hwb,b5,hBB]
 rw [← hwb] at h;clear hw hB;obtain ⟨hBb,hxb⟩:=hxb;rw [← hBB] at hxb;have hmb:=hm.keep hBb;have K:=fun w' (h : RowKit.Below (B + 1) wb w')=>anI (hxb.keep (by rw [hbs]; exact h)) (hmb.keep (by rw [hbs]; exact h));obtain ⟨hs1,hL1,hn1⟩:=db hv;obtain ⟨Ln,rfl⟩ : ∃ n : Nat,L = n:=⟨L.toNat,by have:=hs1.L0; omega⟩;obtain ⟨x,hst,hgr,hxl,hacc,dead⟩:=af3 hs1;rw [Int.toNat_natCast] at hst hgr hacc dead;obtain ⟨g,hg⟩ : ∃ g,g = layG Ln [⟨s,next,fin⟩]:=⟨_,rfl⟩;rw [← hg] at hst hgr hacc dead;obtain ⟨tot,htot⟩ : ∃ tot,tot = next.length:=⟨_,rfl⟩;rw [← htot] at hgr hxl dead;have htg : totG [⟨s,next,fin⟩] = tot:=by simp [totG,htot]
 obtain ⟨k1,k2⟩:=jw hs1;rw [Int.toNat_natCast] at k1;refine wp_seq (bg (α:=(Nat × Nat) × GV) (fun v=>[(1,Vp B),(2,Vp (B + 1)),(4,Vp v.1.1)]) (fun v w'=>Hold (B + 1) wb w' (oX 68 v.1.1 1 [Vp v.1.2] :: (grR v.1.2 Ln tot g v.2 ++ [oX 25 (B + 1) 4 [Vi 0,Vi 0,.slice none 0 0,.slice none 0 0]]))) af hS ?_ (fun v a w2 hS h=>?_))
 ·obtain ⟨hx1,hm1⟩:=K _ h.b
  repeat refine zX rfl ?_
  refine zL rfl (hx1.c0) ?_;refine zA ([Vi Ln,Vi s,vn,ve]) rfl rfl (hx1.cells) ?_;refine b8 rfl rfl rfl ?_;refine exI [(0,.agg #[Vi Ln,Vi s,vn,ve])] (exI #[Vi Ln,Vi s,vn,ve] (anI (anI rfl rfl) (anI (by decide) (anI (fill4m _ _ _ _ _) ?_))));have ha:=ao wc (.cells #[Vi Ln,Vi s,vn,ve] 25);have hMs:=MsIn.one (Bm:=wc.heap.size) (hm1.keep ha) ⟨ax rfl,ax rfl,ax rfl,ax rfl,trivial⟩
  have hlay:=aaq (cm:=1) hMs (by simp) (by simp) (by omega) (by
   intro m hmm;simp only [List.mem_cons,List.not_mem_nil,or_false] at hmm;subst hmm;exact ⟨k1,k2,hs1.s2⟩) (by rw [htg]; omega)
  rw [htg,← hg] at hlay;refine zF rfl (ag3) (hlay) ?_;rintro e w3 ⟨gb,V,rfl,hG⟩;refine ⟨_,rfl,?_⟩;have h2:=(h.below ha).join hG;have h3:=h2.box (T:=68) (k:=1) #[.pointer none] rfl
  repeat refine zX rfl ?_
  refine zB rfl ?_;refine zS rfl rfl (h3.r.xcell (i:=0) rfl (j:=0) rfl) (h3.r.free (i:=0) rfl 0) ?_;exact aj ⟨((_,gb),V),⟨rfl,rfl,rfl,trivial⟩,h3.xstore (i:=0) rfl 0 _⟩
 obtain ⟨⟨gv,b⟩,GVa⟩:=v;simp only at hS h;replace h:=h.perm (List.perm_append_comm (l₁:=[oX 68 gv 1 [Vp b]]) (l₂:=grR b Ln tot g GVa ++ [oX 25 (B + 1) 4 [Vi 0,Vi 0,.slice none 0 0,.slice none 0 0]]));rw [List.append_assoc] at h;refine wp_seq (bg (α:=(Nat × Nat) × Pt × (Nat → Nat → Nat) × Nat) (fun v=>[(1,Vp B),(2,Vp (B + 1)),(4,Vp gv),(5,Vp v.1.1)]) (fun v w'=>RefS Ln (tot + 1) g.nx g.en v.2.1 v.2.2.1 v.2.2.2 ∧ ∃ V,Hold (B + 1) wb w' (oX 70 v.1.1 1 [Vp v.1.2] :: (ptR v.1.2 v.2.1 V ++ (grR b Ln tot g GVa ++ ([oX 25 (B + 1) 4 [Vi 0,Vi 0,.slice none 0 0,.slice none 0 0]] ++ [oX 68 gv 1 [Vp b]]))))) af hS ?_ (fun v a w3 hS h=>?_))
 ·have hgc:=h.r.xcell (i:=5) rfl (j:=0) rfl
  repeat refine zX rfl ?_
  refine zL rfl (hgc) ?_;refine zF rfl (ta) (qa h hgr (by omega) (by omega)) ?_;rintro e w4 ⟨pb,p,lev,R,rfl,hR,V,h2⟩;refine ⟨_,rfl,?_⟩;have h3:=h2.box (T:=70) (k:=1) #[.pointer none] rfl
  repeat refine zX rfl ?_
  refine zB rfl ?_;refine zS rfl rfl (h3.r.xcell (i:=0) rfl (j:=0) rfl) (h3.r.free (i:=0) rfl 0) ?_;exact aj ⟨((_,pb),p,lev,R),⟨rfl,rfl,rfl,rfl,trivial⟩,hR,V,h3.xstore (i:=0) rfl 0 _⟩
 obtain ⟨⟨pv,pb⟩,p,lev,R⟩:=v;simp only at hS h;obtain ⟨hR,V,h⟩:=h;refine wp_seq (bg (α:=Nat) (fun sv=>[(1,Vp B),(2,Vp (B + 1)),(4,Vp gv),(5,Vp pv),(6,Vp sv)]) (fun sv w'=>Hold (B + 1) wb w' (oX 25 (B + 1) 4 [Vi 0,Vi 0,.slice none 0 0,.slice none 0 0] :: leR pv gv sv pb b Ln tot p g V GVa)) af hS ?_ (fun sv a w4 hS h=>?_))
 ·have h3:=h.box (T:=103) (k:=1) #[.nilFunc] rfl
  repeat refine zX rfl ?_
  refine zB rfl ?_;refine zS rfl rfl (h3.r.xcell (i:=0) rfl (j:=0) rfl) (h3.r.free (i:=0) rfl 0) ?_;refine aj ⟨_,⟨rfl,rfl,rfl,rfl,rfl,trivial⟩,(h3.xstore (i:=0) rfl 0 (.func (.func 55) #[] #[Vp pv])).perm ?_⟩;show List.Perm (_ :: _ :: (ptR pb p V ++ (grR b Ln tot g GVa ++ [oX 25 (B + 1) 4 [Vi 0,Vi 0,.slice none 0 0,.slice none 0 0],oX 68 gv 1 [Vp b]]))) (oX 25 (B + 1) 4 [Vi 0,Vi 0,.slice none 0 0,.slice none 0 0] :: _ :: oX 68 gv 1 [Vp b] :: _ :: (ptR pb p V ++ (grR b Ln tot g GVa ++ [])));have e1:=List.perm_append_comm (l₁:=ptR pb p V ++ grR b Ln tot g GVa) (l₂:=[oX 25 (B + 1) 4 [Vi 0,Vi 0,.slice none 0 0,.slice none 0 0],oX 68 gv 1 [Vp b]]);rw [List.append_assoc] at e1;refine ((e1.cons _).cons _).trans ?_;rw [List.append_nil];show List.Perm (_ :: _ :: oX 25 (B + 1) 4 [Vi 0,Vi 0,.slice none 0 0,.slice none 0 0] :: oX 68 gv 1 [Vp b] :: (ptR pb p V ++ grR b Ln tot g GVa)) (oX 25 (B + 1) 4 [Vi 0,Vi 0,.slice none 0 0,.slice none 0 0] :: _ :: oX 68 gv 1 [Vp b] :: _ :: (ptR pb p V ++ grR b Ln tot g GVa));refine ((List.Perm.swap _ _ _).cons _).trans ((List.Perm.swap _ _ _).trans (.cons _ ?_));exact ((List.Perm.swap _ _ _).trans ((List.Perm.swap _ _ _).cons _))
 refine wp_seq (ai [(1,Vp B),(2,Vp (B + 1)),(4,Vp gv),(5,Vp pv),(6,Vp sv),(7,.func (.func 56) #[] #[Vp pv,Vp gv,Vp sv])] (· = w4) af hS ?_ (fun a w5 hS hw=>?_))
 ·repeat refine zX rfl ?_
  exact aj ⟨⟨rfl,rfl,rfl,rfl,rfl,rfl,trivial⟩,rfl⟩
 subst hw;refine wp_seq (ai [(1,Vp B),(2,Vp (B + 1)),(4,Vp gv),(5,Vp pv),(7,.func (.func 56) #[] #[Vp pv,Vp gv,Vp sv]),(8,.func (.func 57) #[] #[Vp gv,Vp sv])] (· = w5) af hS ?_ (fun a w6 hS hw=>?_))
 ·repeat refine zX rfl ?_
  exact aj ⟨⟨rfl,rfl,rfl,rfl,rfl,rfl,trivial⟩,rfl⟩
 subst hw;obtain ⟨nb,hnb⟩ : ∃ nb,nb = gt p.bl tot:=⟨_,rfl⟩;obtain ⟨x0,hx0⟩ : ∃ x0,x0 = gt p.bl x:=⟨_,rfl⟩;have hbl:=hR.pi.bl;have hx0l : x0 < p.bs.length:=by rw [hx0]; exact hR.pi.ib x hxl
 have hfew:=hR.pi.few;obtain ⟨F,hF⟩ : ∃ F,d7 (cd nb x0) (quoN Ln g.nx p nb) Ln = F:=⟨_,rfl⟩;have hgl : g.st.length = 1:=by rw [hst]; rfl
 have hg0 : gt g.st 0 = x:=by rw [hst]; rfl
 refine wp_seq (ep (α:=Value × Value × List Value) 29 (fun _=>[(2,Vp (B + 1)),(3,Vi 0)]) (fun v w'=>v.2.2.length = (F.rows.map (bj F.place (quoN Ln g.nx p nb) Ln)).length ∧ (∀ l ∈ (F.rows.map (bj F.place (quoN Ln g.nx p nb) Ln)),∀ x ∈ l,I64 x) ∧ Found (cd nb x0) (quoN Ln g.nx p nb) Ln F ∧ Hold (B + 1) wb w' (oX 25 (B + 1) 4 [Vi Ln,Vi (if F.rows.length = 0 then -1 else 0 : Int),v.1,v.2.1] :: oB v.2.1 (bt F (quoF g.en p)) :: (dk v.1 v.2.2 (F.rows.map (bj F.place (quoN Ln g.nx p nb) Ln)) ++ leR pv gv sv pb b Ln tot p g V GVa))) dc hS ?_ (fun v a w7 hS h=>?_))
 ·obtain ⟨hx1,-⟩:=K _ h.b;obtain ⟨vst,vpl,vbl,vbs,vcs,vml⟩:=V;obtain ⟨gst,gnx,gen⟩:=GVa;obtain ⟨gbl,cbl,rfl,-⟩:=h.r.nilOr (i:=7) rfl (by omega);obtain ⟨gs,cs,rfl,-⟩:=h.r.nilOr (i:=12) rfl (by omega);have hy : RowKit.Below w6.drew.heap.size w6.drew w6.drew:=RowKit.Below.refl _ _;have hD:=h.drew;have c0:=hD.r.cN (i:=12) rfl (j:=0) (by omega);rw [hg0] at c0;have c1:=hD.r.cN (i:=7) rfl (j:=x) (by omega);rw [← hx0] at c1;have c2:=hD.r.cN (i:=7) rfl (j:=tot) (by omega);rw [← hnb] at c2;refine yL 0 af rfl (by kernel_rfl) hy rfl rfl (hD.r.xcell (i:=1) rfl (j:=0) rfl) ?_;refine yT 1 af rfl (by kernel_rfl) hy rfl (rfl) ?_;refine yT 2 af rfl (by kernel_rfl) hy rfl (rfl) ?_;refine yL 3 af rfl (by kernel_rfl) hy rfl rfl (hD.r.xcell (i:=4) rfl (j:=2) rfl) ?_;refine yL 4 af rfl (by kernel_rfl) hy rfl rfl (hD.r.xcell (i:=2) rfl (j:=0) rfl) ?_;refine yT 5 af rfl (by kernel_rfl) hy rfl (rfl) ?_;refine yT 6 af rfl (by kernel_rfl) hy rfl (rfl) ?_;refine yL 7 af rfl (by kernel_rfl) hy rfl rfl (hD.r.xcell (i:=11) rfl (j:=1) rfl) ?_;refine yT 8 af rfl (by kernel_rfl) hy rfl (exI _ (anI (show (0 : Int) = ((0 : Nat) : Int) from rfl) (anI ((by omega)) rfl))) ?_
  refine yL 9 af rfl (by kernel_rfl) hy rfl rfl (c0) ?_;refine yT 10 af rfl (by kernel_rfl) hy rfl (exI _ (anI (rfl) (anI ((by omega)) rfl))) ?_;refine yL 11 af rfl (by kernel_rfl) hy rfl rfl (c1) ?_;refine yL 12 af rfl (by kernel_rfl) hy rfl rfl (hD.r.xcell (i:=1) rfl (j:=0) rfl) ?_;refine yT 13 af rfl (by kernel_rfl) hy rfl (rfl) ?_;refine yT 14 af rfl (by kernel_rfl) hy rfl (rfl) ?_;refine yL 15 af rfl (by kernel_rfl) hy rfl rfl (hD.r.xcell (i:=4) rfl (j:=2) rfl) ?_;refine yL 16 af rfl (by kernel_rfl) hy rfl rfl (hD.r.xcell (i:=2) rfl (j:=0) rfl) ?_;refine yT 17 af rfl (by kernel_rfl) hy rfl (rfl) ?_;refine yT 18 af rfl (by kernel_rfl) hy rfl (rfl) ?_;refine yL 19 af rfl (by kernel_rfl) hy rfl rfl (hD.r.xcell (i:=11) rfl (j:=4) rfl) ?_;refine yT 20 af rfl (by kernel_rfl) hy rfl (exI _ (anI (rfl) (anI ((by omega)) rfl))) ?_;refine yL 21 af rfl (by kernel_rfl) hy rfl rfl (c2) ?_;refine yT 22 af rfl (by kernel_rfl) hy rfl (rfl) ?_;refine yL 23 af rfl (by kernel_rfl) hy rfl rfl (hx1.c0) ?_;refine yT 24 af rfl (by kernel_rfl) hy rfl (rfl) ?_;refine yT 25 af rfl (by kernel_rfl) hy rfl (rfl) ?_;refine bo 26 (by kernel_rfl) (y_op 26 af rfl rfl rfl rfl ?_);have hcapF:=quo_cap (sa (nb:=nb) hR hgr) (show (quoN Ln g.nx p nb).length = p.bs.length by simp [quoN]) hx0l (by rw [hnb]; exact hR.pi.ib tot (by omega)) (fun b c hb hc=>⟨_,hR.pi.ib _ (hgr.lt _ c (ld hR hb).1 hc),aaj hR hb hc⟩) hF
  have hbu:=aea (rest:=[]) (n:=p.bs.length) (nb:=nb) (x0:=x0) (L:=Ln) (lim:=4000) (S:=56) (S2:=57) (caps:=#[Vp pv,Vp gv,Vp sv]) (caps2:=#[Vp gv,Vp sv]) (next:=quoN Ln g.nx p nb) (fin:=quoF g.en p) (s0:=0) (F:=F) (Hold.start w6.drew) (by omega) (by simp [quoN]) hx0l (by omega) (by omega) (by omega) (sa hR hgr) ag2 ag1
   (fun y c w1 hy hc hw1=>(ado (hD.below hw1.b).tail hR hgr (by omega) (by omega) hy hc).mono (fun e w2 h2=>⟨_,hR.pi.ib _ (hgr.lt _ c (ld hR hy).1 hc),h2.1,aaj hR hy hc,h2.2⟩))
   (fun y w1 hy hw1=>adn (hD.below hw1.b).tail hR hgr (by omega) hy) hF
  refine anI ag5 (hbu.mono ?_);rintro e w8 ⟨vn',ve',vs,rfl,hFo,hvs,hI64,hH⟩;refine ⟨_,rfl,?_⟩;refine anI (.inr hH.b) ?_;obtain ⟨ge,ce,rfl,-⟩:=hH.r.any (i:=0) rfl;obtain ⟨gn,cn,hvn,-⟩:=hH.r.any (i:=1) (v:=vn') (e:=34) (s:=1) (n:=vs.length) (xs:=vs) rfl;subst hvn;have h9:=hD.join hH;rw [List.append_nil] at h9;have h10:=h9.perm (List.perm_middle (a:=oX 25 (B + 1) 4 [Vi 0,Vi 0,.slice none 0 0,.slice none 0 0]) (l₁:=oB (.slice ge (bt F (quoF g.en p)).length ce) (bt F (quoF g.en p)) :: dk (.slice gn vs.length cn) vs (F.rows.map (bj F.place (quoN Ln g.nx p nb) Ln))));have hHb:=hH.b;refine yT 27 af rfl (by kernel_rfl) hHb rfl (rfl) ?_;refine yT 28 af rfl (by kernel_rfl) hHb rfl (rfl) ?_;refine bo 29 (by kernel_rfl) (ew 29 af rfl rfl rfl ?_);refine anI rfl (anI rfl (anI (me h10.r (i:=0) rfl) (anI (.inl (by kernel_rfl)) ?_)));refine yG 30 af rfl (by kernel_rfl) (.inl (by kernel_rfl)) rfl rfl ?_;exact fc (.slice gn vs.length cn,.slice ge (bt F (quoF g.en p)).length ce,vs) (by kernel_rfl) ⟨rfl,rfl,trivial⟩ ⟨by simpa using hvs,hI64,hFo,h10.xput4 (i:=0) rfl _ _ _ _⟩
 obtain ⟨vn',ve',vs⟩:=v;simp only at hS h;obtain ⟨hvs,hI64,hFo,h⟩:=h;have hcan:=afo hR hgr (by omega) hnb dead hxl (F:=F) (by rw [← hx0]; exact hF) (by rw [← hx0]; exact hFo);have hst : I64 (if F.rows.length = 0 then -1 else 0 : Int):=by unfold I64; split <;> omega
 have hrow : Hold w.heap.size w w7 (oB ve' (bt F (quoF g.en p)) :: (dk vn' vs (F.rows.map (bj F.place (quoN Ln g.nx p nb) Ln)) ++ [])):=by
  have h1:=h.tail.perm (l':=leR pv gv sv pb b Ln tot p g V GVa ++ (oB ve' (bt F (quoF g.en p)) :: dk vn' vs (F.rows.map (bj F.place (quoN Ln g.nx p nb) Ln)))) (List.perm_append_comm (l₁:=oB ve' (bt F (quoF g.en p)) :: dk vn' vs (F.rows.map (bj F.place (quoN Ln g.nx p nb) Ln))));rw [List.append_nil];exact (h1.drop).rebase (by omega) (ak hBb (by rw [hbs]; exact h.b)) (by have:=h.s; omega)
 refine wp_ret ?_
 repeat first|refine a8 ?_|refine am ?_
 refine p9 af hS rfl rfl rfl rfl rfl (o:=0) (vs:=[Vi Ln,Vi (if F.rows.length = 0 then -1 else 0 : Int),vn',ve']) ⟨h.r.xcell (i:=0) rfl (j:=0) rfl,h.r.xcell (i:=0) rfl (j:=1) rfl,h.r.xcell (i:=0) rfl (j:=2) rfl,h.r.xcell (i:=0) rfl (j:=3) rfl,trivial⟩ rfl ⟨_,vn',ve',vs,_,_,rfl,hst,hvs,hI64,hrow,hcan.1,fun w hw=>?_⟩;rw [Int.toNat_natCast] at hw;rw [hcan.2 w hw]; exact hacc w hw
theorem aj3 : akk 11:=fun L s vn ve next fin w hm h100=>by
 refine Sym.c8 (args:=[.agg #[Vi L,Vi s,vn,ve]]) Tryz.func11 rfl rfl rfl (fun a0 hS0=>?_);obtain ⟨B,hBB⟩ : ∃ B,B = w.heap.size:=⟨_,rfl⟩;refine wp_seq (ai [(1,Vp B),(2,Vp (B + 1))] (· = (w.alloc (.cells #[Vi L,Vi s,vn,ve] 25)).alloc (.cells #[Vi 0,Vi 0,.slice none 0 0,.slice none 0 0] 25)) af hS0 ?_ (fun a wc hS hw=>?_))
 ·subst hBB;refine zB rfl ?_;refine zB rfl ?_;rw [b5]
  repeat refine zX rfl ?_
  exact aj ⟨⟨rfl,rfl,trivial⟩,rfl⟩
 obtain ⟨hB,hx,h⟩:=sl hw;rw [← hBB] at hx h;obtain ⟨wb,hwb⟩ : ∃ wb,wb = w.alloc (.cells #[Vi L,Vi s,vn,ve] 25):=⟨_,rfl⟩;have hBb : RowKit.Below w.heap.size w wb:=by rw [hwb]; exact ao _ _
 have hbs : wb.heap.size = B + 1:=by rw [hwb,b5,hBB]
 rw [← hwb] at h;clear hw;replace hm:=hm.keep hB;refine wp_seq (wp_seq (ai [(1,Vp B),(2,Vp (B + 1)),(6,.bool (decide (de L s next fin ≠ 0)))] (fun w'=>RowKit.Below wc.heap.size wc w') af hS ?_ (fun a w2 hS hw=>?_)))
 ·refine zA ([Vi L,Vi s,vn,ve]) rfl rfl (hx.cells) ?_;refine zF rfl (l4) (jl L s vn ve next fin wc hm) ?_;rintro e w3 ⟨rfl,h3⟩;refine ⟨_,rfl,?_⟩;refine zC rfl (rfl) ?_
  repeat refine zX rfl ?_
  exact aj ⟨⟨rfl,rfl,rfl,trivial⟩,h3⟩
 replace hx:=hx.keep hw;replace hm:=hm.keep hw;replace h:=h.below hw;clear hw;have outB : ∀ {w'},RowKit.Below (B + 1) wb w' → RowKit.Below w.heap.size w w':=fun h=>ak hBb (by rw [hbs]; exact h);refine cond hS rfl (fun hT=>?_) (fun hF=>wp_skip ?_)
 ·refine wp_seq (ai [(2,Vp (B + 1)),(3,Vi 1)] (fun w'=>Hold (B + 1) wb w' [oX 25 (B + 1) 4 [Vi 0,Vi 0,.slice none 0 0,.slice none 0 0]]) af hS ?_ (fun a w3 hS h=>?_))
  ·repeat refine zX rfl ?_
   refine cj rfl rfl (anI rfl (anI rfl (anI (me h.r (i:=0) rfl) ?_)))
   repeat refine zX rfl ?_
   exact aj ⟨⟨rfl,rfl,trivial⟩,h.xput4 (i:=0) rfl _ _ _ _⟩
  refine wp_ret ?_
  repeat first|refine a8 ?_|refine am ?_
  refine p9 af hS rfl rfl rfl rfl rfl (o:=0) (vs:=[Vi 0,Vi 0,.slice none 0 0,.slice none 0 0]) ⟨h.r.xcell (i:=0) rfl (j:=0) rfl,h.r.xcell (i:=0) rfl (j:=1) rfl,h.r.xcell (i:=0) rfl (j:=2) rfl,h.r.xcell (i:=0) rfl (j:=3) rfl,trivial⟩ rfl ⟨0,0,1,_,_,[],[],rfl,?_,outB h.b,.inl ⟨of_decide_eq_true hT,rfl,rfl,rfl,rfl,rfl⟩⟩;exact ⟨⟨none,0,0,0,rfl,by simp,by simp,by omega,fun i hi=>by simp at hi⟩,⟨none,0,0,0,rfl,by simp,by simp,by omega,fun i hi=>by simp at hi⟩,by unfold I64; omega,by unfold I64; omega,.inl (.inl rfl),.inl (.inl rfl)⟩
 have hv:=Decidable.not_not.1 (of_decide_eq_false hF);refine wp_seq (bg (α:=Int × Value × Value × List Value × List (List Int) × List Bool) (fun _=>[(2,Vp (B + 1)),(3,Vi 0)]) (fun v w'=>I64 v.1 ∧ v.2.2.2.1.length = v.2.2.2.2.1.length ∧ (∀ l ∈ v.2.2.2.2.1,∀ x ∈ l,I64 x) ∧ Canon L v.1 v.2.2.2.2.1 v.2.2.2.2.2 ∧ dq L.toNat v.2.2.2.2.1 v.2.2.2.2.2 v.1 next fin s ∧ Hold (B + 1) wb w' (oX 25 (B + 1) 4 [Vi L,Vi v.1,v.2.1,v.2.2.1] :: oB v.2.2.1 v.2.2.2.2.2 :: (dk v.2.1 v.2.2.2.1 v.2.2.2.2.1 ++ []))) af hS ?_ (fun v a w3 hS hw=>?_))
 ·refine zA ([Vi L,Vi s,vn,ve]) rfl rfl (hx.cells) ?_;refine zF rfl (tc) (qv L s vn ve next fin w2 hm hv (by omega)) ?_;rintro e w3 ⟨s',vn',ve',vs,n',f',rfl,hs',hvs,hI64,hH,hcan,hal⟩;refine ⟨_,rfl,?_⟩;obtain ⟨ge,ce,rfl,-⟩:=hH.r.any (i:=0) rfl;obtain ⟨gn,cn,hvn,-⟩:=hH.r.any (i:=1) (v:=vn') (e:=34) (s:=1) (n:=vs.length) (xs:=vs) rfl;subst hvn;have h9:=(h.join hH).perm (List.perm_append_comm (l₂:=[oX 25 (B + 1) 4 [Vi 0,Vi 0,.slice none 0 0,.slice none 0 0]]))
  repeat refine zX rfl ?_
  refine cj rfl rfl (anI rfl (anI rfl (anI (me h9.r (i:=0) rfl) ?_)))
  repeat refine zX rfl ?_
  exact aj ⟨(s',.slice gn vs.length cn,.slice ge f'.length ce,vs,n',f'),⟨rfl,rfl,trivial⟩,hs',hvs,hI64,hcan,hal,h9.xput4 (i:=0) rfl _ _ _ _⟩
 obtain ⟨s',vn',ve',vs,n',f'⟩:=v;simp only at hw;obtain ⟨hs',hvs,hI64,hcan,hal,h⟩:=hw;have hmF:=aap (L:=L) (s:=s') h.tail hvs hI64 hm.L hs';refine wp_ret ?_
 repeat first|refine a8 ?_|refine am ?_
 exact p9 af hS rfl rfl rfl rfl rfl (o:=0) (vs:=[Vi L,Vi s',vn',ve']) ⟨h.r.xcell (i:=0) rfl (j:=0) rfl,h.r.xcell (i:=0) rfl (j:=1) rfl,h.r.xcell (i:=0) rfl (j:=2) rfl,h.r.xcell (i:=0) rfl (j:=3) rfl,trivial⟩ rfl ⟨L,s',0,vn',ve',n',f',rfl,hmF,outB h.b,.inr ⟨hv,rfl,rfl,hcan,hal⟩⟩
end
section
open Go Sym
theorem xh : bk Tryz.prog 40 = true:=by kernel_rfl
theorem vj : bk Tryz.prog 74 = true:=by kernel_rfl
abbrev qd (x : Int × Int) : Value:=.agg #[Vi x.1,Vi x.2]
theorem ab9 : laidOutB Tryz.prog = true:=by kernel_rfl
theorem abv : (83 : TypeId) < Tryz.prog.types.size:=of_decide_eq_true (by kernel_rfl)
theorem agh : Tryz.prog.keyTypeAt 2 83 = true:=by kernel_rfl
theorem ai5 : Tryz.prog.keyType 83 = true:=by kernel_rfl
theorem ad6 : Tryz.prog.cellsOf 83 = 2:=by kernel_rfl
theorem ad7 : Tryz.prog.cellsOf 3 = 1:=by kernel_rfl
theorem aal : WideMaps.KeyLaw Tryz.prog 83:=deep_law_laid ab9 (m:=2) (by omega) abv agh (by rw [Tryz.underlying83])
theorem pairK : Maps.Keyed Tryz.prog 83:=Maps.Keyed.of_law aal
theorem abk : Tryz.prog.underlying 91 = some (.map 83 3):=by kernel_rfl
noncomputable def qe (x : Int × Int) : Lit:=(keyOf Tryz.prog 83 (qd x)).getD (.bool false)
theorem wq (x : Int × Int) (h1 : (Lit.int .i64 x.1).wf = true) (h2 : (Lit.int .i64 x.2).wf = true) : keyOf Tryz.prog 83 (qd x) = some (qe x):=by
 have hs : (keyOf Tryz.prog 83 (qd x)).isSome = true:=by
  have hu:=Tryz.underlying83;obtain ⟨n,hn⟩ : ∃ n,Tryz.prog.types.size = n + 1:=⟨Tryz.prog.types.size - 1,by have h : (0 : Nat) < Tryz.prog.types.size:=Nat.lt_of_le_of_lt (Nat.zero_le _) abv; omega⟩;have hc : (qd x).cells.toList = [Vi x.1,Vi x.2]:=rfl;simp [keyOf,hu,ai5,Value.formed,ad6,hc,hn,Program.keyLits,ad7,h1,h2]
 obtain ⟨l,hl⟩:=Option.isSome_iff_exists.1 hs;rw [qe,hl]; rfl
theorem afz (x : Int × Int) (h1 : (Lit.int .i64 x.1).wf = true) (h2 : (Lit.int .i64 x.2).wf = true) : ∀ y,qe y = qe x → y = x:=fun y h=>by
 have hx:=wq x h1 h2;obtain ⟨s,hs⟩:=aal.str hx
 cases hy : keyOf Tryz.prog 83 (qd y) with
 | none=>
   rw [qe,hy,hs] at h
   cases h
 | some l=>
   rw [qe,hy] at h;have h : l = qe x:=h;rw [← h] at hx
   have:=aal.inj hy hx
   simp only [qd,Value.agg.injEq,Array.mk.injEq,List.cons.injEq,Value.int.injEq,true_and,and_true] at this;exact Prod.ext this.1 this.2
abbrev oP (v : Value) (l : List (Int × Int)) : Ow:=⟨v,83,2,l.length,d6 l⟩
abbrev inR (W n : Nat) (x : Int × Int) : Prop:=-1 ≤ x.1 ∧ -1 ≤ x.2 ∧ x.2 + 1 < W ∧ x.1 ≤ 5000 ∧ W ≤ 5001 ∧ plc W x.1 x.2 < n
def cdP (W : Nat) (x : Int × Int) : Int:=if x.1 < 0 ∧ x.2 < 0 then -1 else (plc W x.1 x.2 : Int)
def plfP (W n : Nat) (s : FS) (x : Int × Int) : Option Nat:=if inR W n x then plf s (plc W x.1 x.2) else none
theorem inR.wf {W n : Nat} {x : Int × Int} (h : inR W n x) : (Lit.int .i64 x.1).wf = true ∧ (Lit.int .i64 x.2).wf = true:=by
 obtain ⟨h1,h2,h3,h4,h5,-⟩:=h;simp only [Lit.wf,Bool.and_eq_true,decide_eq_true_eq,IntKind.min,IntKind.max,IntKind.bits,IntKind.signed];refine ⟨⟨?_,?_⟩,?_,?_⟩ <;> simp <;> omega
theorem zd {W n : Nat} {x : Int × Int} (h : inR W n x) : -1 ≤ cdP W x ∧ cdP W x < n:=by
 have:=h.2.2.2.2.2
 unfold cdP; split <;> omega
def md (base : Nat) (w0 w : World) (fb W n : Nat) (s : FS) (rest : List Ow) : Prop:=
 ∃ (mb : Nat) (vf : Value) (xs : List (Int × Int)),Hold base w0 w (g7 93 fb [Vi (-1),Vi (-1)] mb vf :: oP vf xs :: rest) ∧ s.rows = xs.map (fun x=>(plc W x.1 x.2 : Int)) ∧ MapF qe 83 w mb xs.length (plfP W n s) ∧ base ≤ mb ∧ ∀ x ∈ xs,inR W n x
section
variable {base : Nat} {w0 w w' : World} {rest : List Ow}
theorem md.below {fb W n : Nat} {s : FS} (h : md base w0 w fb W n s rest) (hb : RowKit.Below w.heap.size w w') : md base w0 w' fb W n s rest:=by
 obtain ⟨mb,vf,xs,h1,h2,h3,h4⟩:=h;exact ⟨mb,vf,xs,h1.below hb,h2,h3.below hb,h4⟩
theorem uf (h : Hold base w0 w rest) (W n : Nat) :
  Calls Tryz.prog 40 #[.agg #[Vi (-1),Vi (-1)]] w fun e w'=>∃ fb,e = .returned (Vp fb) ∧ md base w0 w' fb W n (FS.none n) rest:=by
 refine Sym.c8 (args:=[.agg #[Vi (-1),Vi (-1)]]) Tryz.func40 rfl rfl rfl (fun a0 hS0=>?_);obtain ⟨N,hN⟩ : ∃ N,N = w.heap.size:=⟨_,rfl⟩;refine wp_seq (ai [(1,Vp N)] (· = w.alloc (.cells #[Vi (-1),Vi (-1)] 83)) af hS0 ?_ (fun a w1 hS hw=>?_))
 ·subst hN;refine zB rfl ?_
  repeat refine zX rfl ?_
  exact aj ⟨⟨rfl,trivial⟩,rfl⟩
 have hp : BoxP w1 N (-1) (-1):=by rw [hw,hN]; exact BoxP.new _ _ _ _
 replace h:=h.alloc (.cells #[Vi (-1),Vi (-1)] 83);rw [← hw] at h;clear hw;refine wp_seq (bg (α:=Nat) (fun fb=>[(2,Vp fb)]) (fun fb w'=>md base w0 w' fb W n (FS.none n) rest) af hS ?_ (fun fb a w2 hS hw=>?_))
 ·have hm:=MapF.made qe 83 w1;have h1:=(h.alloc (.map #[] 0)).nil 83 2;have h2:=h1.box (T:=93) (k:=4) #[Vi (-1),Vi (-1),.map (some w1.heap.size),.slice none 0 0] rfl;refine zA ([Vi (-1),Vi (-1)]) rfl rfl (hp.cells) ?_;refine zB rfl ?_
  repeat refine zX rfl ?_
  refine zB rfl ?_
  repeat refine zX rfl ?_
  refine aj ⟨_,⟨rfl,trivial⟩,w1.heap.size,.slice none 0 0,[],h2,rfl,?_,h.s,fun x hx=>by cases hx⟩
  have e : plfP W n (FS.none n) = fun _=>none:=by
   funext x
   unfold plfP;rw [wn]; split <;> rfl
  rw [e];exact hm.below (ao _ _)
 refine wp_ret ?_
 repeat first|refine a8 ?_|refine am ?_
 exact ret1 hS rfl rfl ⟨fb,rfl,hw⟩
theorem af4 {W n : Nat} {s : FS} {x : Int × Int} (hI : FIn n s) (hx : inR W n x) (hne : ¬ (x.1 < 0 ∧ x.2 < 0)) (h0 : s.place.getD (plc W x.1 x.2) (-1) < 0) : (s.num (cdP W x)).rows = s.rows ++ [(plc W x.1 x.2 : Int)] ∧ plcM (s.num (cdP W x)).place (cdP W x) = s.rows.length ∧ plfP W n (s.num (cdP W x)) = fun y=>if y = x then some s.rows.length else plfP W n s y:=by
 obtain ⟨nb,hnb⟩ : ∃ nb,nb = plc W x.1 x.2 + 1:=⟨_,rfl⟩;have hc : cdP W x = cd nb (plc W x.1 x.2):=by rw [cdP,if_neg hne,cd,if_neg (by omega)]
 obtain ⟨k1,k2,k3⟩:=wu (nb:=nb) hI hx.2.2.2.2.2 (by omega) h0;rw [hc];refine ⟨k1,k2,?_⟩
 funext y
 unfold plfP;rw [k3]
 by_cases ey : y = x
 ·subst ey;rw [if_pos hx,if_pos rfl];exact if_pos rfl
 ·rw [if_neg ey]
  by_cases hy : inR W n y
  ·rw [if_pos hy,if_pos hy];dsimp only;rw [if_neg];intro e;obtain ⟨e1,e2⟩:=qb hy.1 hy.2.1 hx.1 hx.2.1 hy.2.2.1 hx.2.2.1 e;exact ey (Prod.ext e1 e2)
  ·rw [if_neg hy,if_neg hy]
theorem adi {W n : Nat} {s : FS} {x : Int × Int} (hI : FIn n s) (hx : inR W n x) (hne : ¬ (x.1 < 0 ∧ x.2 < 0)) (h0 : ¬ s.place.getD (plc W x.1 x.2) (-1) < 0) : s.num (cdP W x) = s ∧ plcM s.place (cdP W x) = (((plfP W n s x).getD 0 : Nat) : Int):=by
 obtain ⟨nb,hnb⟩ : ∃ nb,nb = plc W x.1 x.2 + 1:=⟨_,rfl⟩;have hc : cdP W x = cd nb (plc W x.1 x.2):=by rw [cdP,if_neg hne,cd,if_neg (by omega)]
 obtain ⟨k1,k2⟩:=sg (nb:=nb) hI hx.2.2.2.2.2 (by omega) h0;rw [hc,plfP,if_pos hx];exact ⟨k1,k2⟩
set_option maxHeartbeats 2000000 in
theorem numP_r7 {fb mb B : Nat} {x : Int × Int} {vf : Value} {xs : List (Int × Int)} {f : Int × Int → Option Nat} {m : Nat} (h : Hold base w0 w (g7 93 fb [Vi (-1),Vi (-1)] mb vf :: oP vf xs :: rest)) (hm : MapF qe 83 w mb m f) (hp : BoxP w B x.1 x.2) (hl : xs.length ≤ 100000000) {z : Int}
  {Q : Exit → Act → World → Prop} {a : Act} {ops : Array Oper} {id : Nat} (hops : Sym.da Tryz.f74.body 7 = some (id,ops))
  (hS : St Tryz.f74.ntmps a [(0,Vp fb),(3,Vp B),(5,Vi z)])
  (hq : ∀ vf' a' w',St Tryz.f74.ntmps a' [(5,Vi z)] → Hold base w0 w' (g7 93 fb [Vi (-1),Vi (-1)] mb vf' :: oP vf' (xs ++ [x]) :: rest) ∧ MapF qe 83 w' mb m f → Q .normal a' w') : (Code.region id ops true).wp Tryz.prog Q a w:=by
 cases hops
 refine ep (α:=Value) 7 (fun _=>[(5,Vi z)]) (fun vf' w'=>Hold base w0 w' (g7 93 fb [Vi (-1),Vi (-1)] mb vf' :: oP vf' (xs ++ [x]) :: rest) ∧ MapF qe 83 w' mb m f) dc hS ?_ hq;obtain ⟨gs,cs,rfl,hc⟩:=h.r.any (i:=1) rfl;have hy : RowKit.Below w.drew.heap.size w.drew w.drew:=RowKit.Below.refl _ _;have hd : RowKit.Below w.heap.size w w.drew:=(RowKit.Below.refl _ _).drew;have hD:=h.drew;have hmD:=hm.below hd;have hpD:=hp.keep hd;refine yG 0 af rfl (by kernel_rfl) (.inr hy) rfl rfl ?_;refine yT 1 af rfl (by kernel_rfl) hy rfl (rfl) ?_;refine yT 2 af rfl (by kernel_rfl) hy rfl (rfl) ?_;refine yT 3 af rfl (by kernel_rfl) hy rfl (rfl) ?_;refine yL 4 af rfl (by kernel_rfl) hy rfl rfl (hD.r.xcell (i:=0) rfl (j:=3) rfl) ?_;refine yT 5 af rfl (by kernel_rfl) hy rfl (exI ([Vi x.1,Vi x.2]) (anI rfl (anI (hpD.cells) rfl))) ?_;refine bo 6 (by kernel_rfl) (y_op 6 af rfl rfl rfl rfl ?_);refine exI [(0,.agg #[Vi x.1, Vi x.2])] (exI #[Vi x.1, Vi x.2] (anI (anI rfl rfl) (anI (by decide) (anI (fill2 _ _ _ rfl) ?_))));have hy1:=hy.alloc (Nat.le_refl _) (.cells #[Vi x.1,Vi x.2] 83);refine anI (.inr hy1) ?_;have h3:=hD.alloc (.cells #[Vi x.1,Vi x.2] 83);have hm3:=hmD.below (ao w.drew (.cells #[Vi x.1,Vi x.2] 83))
 have ask : AppAsk (w.drew.alloc (.cells #[Vi x.1,Vi x.2] 83)) ⟨83,.struct [(0,3),(1,3)],2,16,.agg #[Vi 0,Vi 0]⟩ (.slice gs xs.length cs) xs.length (d6 xs) (Vs w.drew.heap.size 1 1) 1 [Vi x.1,Vi x.2] base:=
  ⟨h3.r.1 1 _ rfl,.inr ⟨_,0,_,rfl,ax rfl,ax rfl,trivial⟩,rfl,(by simp [Value.oneCell']),(by omega),(by show (xs.length + 1) * 16 ≤ _; omega),h3.s⟩
 refine bo 7 (by kernel_rfl) (y_op 7 af rfl rfl rfl rfl ?_);refine exI _ (exI _ (exI _ (exI _ (exI _ (anI (ask) (anI (fun _ h=>h.symm) (anI (by decide) ?_)))))));rintro v' w3 hown hgr - hat;refine anI (.inl (by kernel_rfl)) ?_;have h4:=h3.app (i:=1) rfl hown hgr hat;have hm4:=hm3.row h3.r (i:=1) rfl hgr;obtain ⟨g2,n2,c2,hv⟩:=df hown;subst hv;have e : (⟨.slice g2 n2 c2,83,2,xs.length + 1,d6 xs ++ [Vi x.1,Vi x.2]⟩ : Ow) = oP (.slice g2 n2 c2) (xs ++ [x]):=by rw [oP,List.length_append,q6]; rfl
 have h5 : Hold base w0 w3 (g7 93 fb [Vi (-1),Vi (-1)] mb (.slice gs xs.length cs) :: oP (.slice g2 n2 c2) (xs ++ [x]) :: rest):=by rw [← e]; exact h4
 refine yG 8 af rfl (by kernel_rfl) (.inl (by kernel_rfl)) rfl rfl ?_;refine yG 9 af rfl (by kernel_rfl) (.inl (by kernel_rfl)) rfl rfl ?_;refine bo 10 (by kernel_rfl) (ew 10 af rfl rfl rfl ?_);refine anI rfl (anI rfl (anI ⟨_,h5.r.xcell (i:=0) rfl (j:=3) rfl⟩ (anI (h5.r.free (i:=0) rfl 3) (anI (.inl (by kernel_rfl)) ?_))));exact fc (.slice g2 n2 c2) (by kernel_rfl) ⟨rfl,trivial⟩ ⟨h5.xstore (i:=0) rfl 3 (.slice g2 n2 c2),hm4.store h5.r (i:=0) rfl⟩
set_option maxHeartbeats 2000000 in
theorem sd {fb W n : Nat} {s : FS} (h : md base w0 w fb W n s rest) (hI : FIn n s) (hn : n ≤ 20000000) (hfew : s.rows.length ≤ 1000000) {x : Int × Int} (hx : inR W n x) :
  Calls Tryz.prog 74 #[Vp fb,qd x] w fun e w'=>e = .returned (Vi (plcM (s.num (cdP W x)).place (cdP W x))) ∧ md base w0 w' fb W n (s.num (cdP W x)) rest:=by
 refine Sym.c8 (args:=[Vp fb,.agg #[Vi x.1,Vi x.2]]) Tryz.func74 rfl rfl rfl (fun a0 hS0=>?_);obtain ⟨B,hBB⟩ : ∃ B,B = w.heap.size:=⟨_,rfl⟩;refine wp_seq (ai [(0,Vp fb),(3,Vp B)] (· = w.alloc (.cells #[Vi x.1,Vi x.2] 83)) af hS0 ?_ (fun a w1 hS hw=>?_))
 ·subst hBB;refine zB rfl ?_
  repeat refine zX rfl ?_
  exact aj ⟨⟨rfl,rfl,trivial⟩,rfl⟩
 obtain ⟨mb,vf,xs,h,hrs,hm,hb,hin⟩:=h;replace h:=(h.box (T:=83) (k:=2) #[Vi x.1,Vi x.2] rfl).perm (List.Perm.trans (.swap _ _ _) (.cons _ (.swap _ _ _)));replace hm:=hm.below (ao w (.cells #[Vi x.1,Vi x.2] 83));rw [← hw,← hBB] at h;rw [← hw] at hm;clear hw;have bx : ∀ {w' : World} {vf : Value} {xs : List (Int × Int)},Hold base w0 w' (g7 93 fb [Vi (-1),Vi (-1)] mb vf :: oP vf xs :: oX 83 B 2 [Vi x.1,Vi x.2] :: rest) → BoxP w' B x.1 x.2:=fun h=>⟨h.r.xcell (i:=2) rfl (j:=0) rfl,h.r.xcell (i:=2) rfl (j:=1) rfl⟩;have hp:=bx h;have hxl : s.rows.length = xs.length:=by rw [hrs,List.length_map]
 obtain ⟨hw1,hw2⟩:=hx.wf;obtain ⟨q,hq⟩ : ∃ b,(decide (x.1 = -1) && (decide (x.2 = -1) && true)) = b:=⟨_,rfl⟩;refine wp_seq (wp_seq (b6 [(0,Vp fb),(3,Vp B),(12,.bool q)] af dc (by kernel_rfl) hS ?_ (fun a w2 hS hw=>?_)))
 ·refine qA ([Vi x.1,Vi x.2]) rfl rfl (hp.cells) ?_
  repeat refine qX rfl ?_
  refine qA ([Vi (-1),Vi (-1)]) rfl rfl (⟨h.r.xcell (i:=0) rfl (j:=0) rfl,h.r.xcell (i:=0) rfl (j:=1) rfl,trivial⟩) ?_;refine qQ rfl (congrArg some hq) ?_
  repeat refine qX rfl ?_
  exact fa ⟨rfl,rfl,rfl,trivial⟩
 replace h:=h.below hw;replace hm:=hm.below hw;replace hp:=hp.keep hw;clear hw;refine cond hS rfl (fun hT=>?_) (fun hF=>wp_skip ?_)
 ·rw [hT] at hq;simp only [Bool.and_true,Bool.and_eq_true,decide_eq_true_eq] at hq;have e : cdP W x = -1:=if_pos (by omega);refine wp_seq (ai [(4,Vi (-1))] (· = w2) af hS ?_ (fun a w3 hS hw=>?_))
  ·repeat refine zX rfl ?_
   exact aj ⟨⟨rfl,trivial⟩,rfl⟩
  subst hw;have e2 : s.num (-1) = s:=by rw [FS.num,if_neg (by omega)]
  rw [e,e2];refine wp_ret ?_
  repeat first|refine a8 ?_|refine am ?_
  exact ret1 hS rfl rfl ⟨rfl,mb,vf,xs,h.erase 2,hrs,hm,hb,hin⟩
 rw [hF] at hq
 have hne : ¬ (x.1 < 0 ∧ x.2 < 0):=by
  simp only [Bool.and_true,Bool.and_eq_false_iff,decide_eq_false_iff_not] at hq
  have:=hx.1
  have:=hx.2.1
  omega
 refine wp_seq (d5 11 [(0,Vp fb),(3,Vp B),(5,Vi (((plfP W n s x).getD 0 : Nat) : Int)),(6,.bool (plfP W n s x).isSome)] (fun w'=>RowKit.Below w2.heap.size w2 w') dc hS ?_ (fun a w3 hS hw=>?_))
 ·have hy : RowKit.Below w2.drew.heap.size w2.drew w2.drew:=RowKit.Below.refl _ _;have hd : RowKit.Below w2.heap.size w2 w2.drew:=(RowKit.Below.refl _ _).drew;have hD:=h.drew;have hmD:=hm.below hd;have hpD:=hp.keep hd;refine yT 0 af rfl (by kernel_rfl) hy rfl (rfl) ?_;refine yT 1 af rfl (by kernel_rfl) hy rfl (rfl) ?_;refine yT 2 af rfl (by kernel_rfl) hy rfl (rfl) ?_;refine yL 3 af rfl (by kernel_rfl) hy rfl rfl (hD.r.xcell (i:=0) rfl (j:=2) rfl) ?_;refine yT 4 af rfl (by kernel_rfl) hy rfl (exI ([Vi x.1,Vi x.2]) (anI rfl (anI (hpD.cells) rfl))) ?_;refine bo 5 (by kernel_rfl) (y_op 5 af rfl rfl rfl rfl ?_);refine ⟨_,MapF.look (kv:=qd) hmD pairK abk x (wq x hw1 hw2),?_⟩;refine anI (.inr hy) ?_;refine yT 6 af rfl (by kernel_rfl) hy rfl (rfl) ?_;refine yT 7 af rfl (by kernel_rfl) hy rfl (rfl) ?_;refine yT 8 af rfl (by kernel_rfl) hy rfl (rfl) ?_;refine yT 9 af rfl (by kernel_rfl) hy rfl (rfl) ?_;refine yT 10 af rfl (by kernel_rfl) hy rfl (rfl) ?_;exact iq (by kernel_rfl) ⟨rfl,rfl,rfl,rfl,trivial⟩ hd
 replace h:=h.below hw;replace hm:=hm.below hw;replace hp:=hp.keep hw;clear hw;refine wp_seq (wp_seq (ai [(0,Vp fb),(3,Vp B),(5,Vi (((plfP W n s x).getD 0 : Nat) : Int)),(23,.bool (!(plfP W n s x).isSome))] (· = w3) af hS ?_ (fun a w4 hS hw=>?_)))
 ·repeat refine zX rfl ?_
  exact aj ⟨⟨rfl,rfl,rfl,rfl,trivial⟩,rfl⟩
 subst hw
 by_cases h0 : s.place.getD (plc W x.1 x.2) (-1) < 0
 ·obtain ⟨k1,k2,k3⟩:=af4 hI hx hne h0;have hpn : plfP W n s x = none:=by rw [plfP,if_pos hx,plf,if_neg (by omega)]
  rw [hpn] at hS;refine cond hS rfl (fun hT=>?_) (fun hF=>by cases hF);refine wp_seq (ai [(0,Vp fb),(3,Vp B),(5,Vi xs.length)] (· = w4) af hS ?_ (fun a w5 hS hw=>?_))
  ·obtain ⟨g,c,rfl,-,-⟩:=h.r.any (i:=1) rfl
   repeat refine zX rfl ?_
   refine zL rfl (h.r.xcell (i:=0) rfl (j:=3) rfl) ?_
   repeat refine zX rfl ?_
   exact aj ⟨⟨rfl,rfl,rfl,trivial⟩,rfl⟩
  subst hw;refine wp_seq (d5 6 [(0,Vp fb),(3,Vp B),(5,Vi xs.length)] (fun w'=>Hold base w0 w' (g7 93 fb [Vi (-1),Vi (-1)] mb vf :: oP vf xs :: oX 83 B 2 [Vi x.1,Vi x.2] :: rest) ∧ MapF qe 83 w' mb (xs.length + 1) (plfP W n (s.num (cdP W x)))) dc hS ?_ (fun a w6 hS hw=>?_))
  ·have hy : RowKit.Below w5.drew.heap.size w5.drew w5.drew:=RowKit.Below.refl _ _;have hd : RowKit.Below w5.heap.size w5 w5.drew:=(RowKit.Below.refl _ _).drew;have hD:=h.drew;have hmD:=hm.below hd;have hpD:=hp.keep hd;refine yT 0 af rfl (by kernel_rfl) hy rfl (rfl) ?_;refine yT 1 af rfl (by kernel_rfl) hy rfl (rfl) ?_;refine yT 2 af rfl (by kernel_rfl) hy rfl (rfl) ?_;refine yL 3 af rfl (by kernel_rfl) hy rfl rfl (hD.r.xcell (i:=0) rfl (j:=2) rfl) ?_;refine yT 4 af rfl (by kernel_rfl) hy rfl (exI ([Vi x.1,Vi x.2]) (anI rfl (anI (hpD.cells) rfl))) ?_;refine yT 5 af rfl (by kernel_rfl) hy rfl (rfl) ?_;refine bo 6 (by kernel_rfl) (ew 6 af rfl rfl rfl ?_);obtain ⟨w',g1,g2,g3⟩:=MapF.put (kv:=qd) hmD pairK abk (by unfold maxLen; omega) x (wq x hw1 hw2) (afz x hw1 hw2) (v:=xs.length) (by omega);refine ⟨w',g1,?_⟩;refine anI (.inl (by kernel_rfl)) ?_;refine iq (by kernel_rfl) ⟨rfl,rfl,rfl,trivial⟩ ⟨hD.map hmD hb g3,by rw [k3,hxl]; exact g2⟩
  obtain ⟨h,hm⟩:=hw;refine numP_r7 h hm (bx h) (by omega) rfl hS (fun vf' a w7 hS hw=>?_);obtain ⟨h,hm⟩:=hw;refine wp_seq (ai [(4,Vi xs.length)] (· = w7) af hS ?_ (fun a w8 hS hw=>?_))
  ·repeat refine zX rfl ?_
   exact aj ⟨⟨rfl,trivial⟩,rfl⟩
  subst hw;refine wp_ret ?_
  repeat first|refine a8 ?_|refine am ?_
  refine ret1 hS rfl rfl ⟨by rw [k2,hxl],mb,vf',xs ++ [x],h.erase 2,?_,?_,hb,fun y hy=>?_⟩
  ·rw [k1,hrs]; simp
  ·rw [List.length_append]; exact hm
  ·rcases List.mem_append.1 hy with hy | hy
   ·exact hin y hy
   ·rw [List.mem_singleton.1 hy]; exact hx
 ·obtain ⟨k1,k2⟩:=adi hI hx hne h0;have hps : (plfP W n s x).isSome = true:=by rw [plfP,if_pos hx,plf,if_pos (by omega)]; rfl
  rw [hps] at hS;refine cond hS rfl (fun hT=>by cases hT) (fun hF=>wp_skip ?_);refine wp_seq (ai [(4,Vi (((plfP W n s x).getD 0 : Nat) : Int))] (· = w4) af hS ?_ (fun a w5 hS hw=>?_))
  ·repeat refine zX rfl ?_
   exact aj ⟨⟨rfl,trivial⟩,rfl⟩
  subst hw;rw [k1,k2];refine wp_ret ?_
  repeat first|refine a8 ?_|refine am ?_
  exact ret1 hS rfl rfl ⟨rfl,mb,vf,xs,h.erase 2,hrs,hm,hb,hin⟩
end
end
section
open Go Sym
theorem ku : ∀ (ps : List (Int × Int)) (i : Nat) (hi : i < ps.length),(d6 ps)[i * 2]? = some (Vi ps[i].1) ∧ (d6 ps)[i * 2 + 1]? = some (Vi ps[i].2)
 | [],i,hi=>by simp at hi
 | x :: r,0,_=>⟨rfl,rfl⟩
 | x :: r,i + 1,hi=>by
   have:=ku r i (by simpa using hi)
   rw [show (i + 1) * 2 = i * 2 + 2 by omega];exact this
section
variable {w : World} {base g n c : Nat} {l : List (Int × Int)}
theorem ux (h : w.ownsRow base 83 2 (Vs g n c) n (d6 l)) (hn : n = l.length) {j : Nat} (hj : j < l.length) : ca w.cell? g (0 + j * 2) [Vi l[j].1,Vi l[j].2]:=by
 subst hn;obtain ⟨h1,h2⟩:=ku l j hj;rw [Nat.zero_add];exact ⟨by rw [World.ownsRow.cellAt h (j * 2) (by omega)]; exact h1,by rw [World.ownsRow.cellAt h (j * 2 + 1) (by omega)]; exact h2,trivial⟩
theorem ais {v : Value} (h : w.ownsRow base 83 2 v n (d6 l)) (hn : n = l.length) (hI : ∀ x ∈ l,I64 x.1 ∧ I64 x.2) : SlP w v l:=by
 subst hn
 rcases h.2 with ⟨rfl,h0⟩ | ⟨g,cap,cur,rfl,_,hg,h1,h2,_⟩
 ·exact ⟨none,0,0,0,by rw [h0],by omega,by omega,by omega,fun i hi=>by omega⟩
 ·exact ⟨some ⟨g,0,none⟩,g,0,cap,rfl,fun _=>rfl,h1,by unfold maxLen at h2; omega,fun i hi=>⟨ux h rfl hi,hI _ (List.getElem_mem hi)⟩⟩
end
end
section
open Go Sym
theorem ady : bk Tryz.prog 44 = true:=by kernel_rfl
section
variable {base : Nat} {w0 w w' : World} {l rest : List Ow}
theorem Rows.cP (h : Rows base w l) {i g n c : Nat} {xs : List (Int × Int)} (hi : l[i]? = some (oP (Vs g n c) xs)) {j : Nat} (hj : j < xs.length) : ca w.cell? g (0 + j * 2) [Vi xs[j].1,Vi xs[j].2]:=by
 have h1:=h.1 i _ hi;obtain rfl:=h.len hi;exact ux h1 rfl hj
set_option maxHeartbeats 1000000 in
theorem aac {n fb W L lim S : Nat} {x0 : Int × Int} {caps : Array Value} {next : List (List Int)} {F : FS} (h : md base w0 w fb W n (FS.none n) rest) (hn : n ≤ 100000) (hnl : next.length = n) (hx0 : inR W n x0) (hL : L ≤ 100000) (hlim : n ≤ lim) (hlim2 : lim ≤ 1000000)
  (hr : ∀ r : Int,0 ≤ r → r < n → ∀ c,c < L → -1 ≤ tgtM next r c ∧ tgtM next r c < n) (hen : bk Tryz.prog S = true)
  (hstep : ∀ (y : Int × Int) (c : Nat) (w : World),inR W n y → c < L → Hold base w0 w rest → Calls Tryz.prog S ([qd y,Vi c] ++ caps.toList).toArray w fun e w'=>∃ z : Int × Int,inR W n z ∧ e = .returned (qd z) ∧ tgtM next (plc W y.1 y.2 : Int) c = cdP W z ∧ RowKit.Below w.heap.size w w')
  (hF : d7 (cdP W x0) next L = F) :
  Calls Tryz.prog 44 #[Vp fb,qd x0,Vi L,Vi lim,.func (.func S) #[] caps] w fun e w'=>∃ (vn : Value) (vs : List Value),e = .returned (.tuple #[vn,.bool true]) ∧ vs.length = F.rows.length ∧ FIn n F ∧ md base w0 w' fb W n F (dk vn vs (F.rows.map (bj F.place next L)) ++ rest):=by
 refine Sym.c8 (args:=[Vp fb,qd x0,Vi L,Vi lim,.func (.func S) #[] caps]) Tryz.func44 rfl rfl rfl (fun a0 hS0=>?_);obtain ⟨B,hBB⟩ : ∃ B,B = w.heap.size:=⟨_,rfl⟩;refine wp_seq (ai [(0,Vp fb),(2,Vi L),(3,Vi lim),(4,.func (.func S) #[] caps),(6,Vp B),(10,.slice none 0 0)] (· = w.alloc (.cells #[Vi x0.1,Vi x0.2] 83)) af hS0 ?_ (fun a w1 hS hw=>?_))
 ·subst hBB;refine zB rfl ?_
  repeat refine zX rfl ?_
  exact aj ⟨⟨rfl,rfl,rfl,rfl,rfl,rfl,trivial⟩,rfl⟩
 have hp : BoxP w1 B x0.1 x0.2:=by rw [hw,hBB]; exact BoxP.new _ _ _ _
 replace h:=h.below (ao w (.cells #[Vi x0.1,Vi x0.2] 83));rw [← hw] at h;clear hw;have hc0:=zd hx0;have hI0:=(FIn.none n).num hc0.2 hc0.1;refine wp_scope_straight (wp_seq (ai [(0,Vp fb),(2,Vi L),(3,Vi lim),(4,.func (.func S) #[] caps),(10,.slice none 0 0)] (fun w'=>md base w0 w' fb W n ((FS.none n).num (cdP W x0)) rest) af hS ?_ (fun a w2 hS h=>?_)))
 ·repeat refine zX rfl ?_
  refine zA ([Vi x0.1,Vi x0.2]) rfl rfl (hp.cells) ?_;refine zF rfl (vj) (sd h (FIn.none n) (by omega) (by simp [FS.none]) hx0) ?_;rintro e w2 ⟨rfl,h2⟩;refine ⟨_,rfl,?_⟩
  repeat refine zX rfl ?_
  exact aj ⟨⟨rfl,rfl,rfl,rfl,rfl,trivial⟩,h2⟩
 refine wp_seq (wp_label ?_);refine wp_seq (wp_seq (ai [(0,Vp fb),(2,Vi L),(3,Vi lim),(4,.func (.func S) #[] caps),(10,.slice none 0 0),(12,Vi (0 : Nat))] (· = w2) af hS ?_ (fun a w3 hS hw=>?_)))
 ·repeat refine zX rfl ?_
  exact aj ⟨⟨rfl,rfl,rfl,rfl,rfl,rfl,trivial⟩,rfl⟩
 subst hw;obtain ⟨mb,vf,xs,h,hrs,hm,hb,hin⟩:=h;have hne:=(h.nil 34 1).perm (List.Perm.trans (.swap _ _ _) (.cons _ (.swap _ _ _)))
 refine wp_block (cz hS (fun g E w'=>∃ (i : Nat) (s : FS) (vn : Value) (vs : List Value),E = [(0,Vp fb),(2,Vi L),(3,Vi lim),(4,.func (.func S) #[] caps),(10,vn),(12,Vi i)] ∧ FIn n s ∧ i ≤ s.rows.length ∧ dg next L g i s = F ∧ n ≤ g + i ∧ vs.length = i ∧ md base w0 w' fb W n s (dk vn vs ((s.rows.take i).map (bj F.place next L)) ++ rest)) n
  ⟨0,_,_,[],rfl,hI0.1,Nat.zero_le _,by rw [← hF,js (by rw [hnl]; exact hc0.2) hc0.1,hnl],by omega,rfl,mb,vf,xs,hne,hrs,hm,hb,hin⟩ ?_)
 clear hS h hne hrs hm hb hin;rintro g E w4 a ⟨i,s,vn,vs,rfl,hI,hi,hgo,hg,hvs,h⟩ hS;have hcap:=hI.ok.cap;refine wp_seq (wp_seq (ai [(0,Vp fb),(2,Vi L),(3,Vi lim),(4,.func (.func S) #[] caps),(10,vn),(12,Vi i),(24,.bool (decide (i < s.rows.length)))] (· = w4) af hS ?_ (fun a w5 hS hw=>?_)))
 ·obtain ⟨mb,vf,xs,h,hrs,hm,hb,hin⟩:=h;have hxl : s.rows.length = xs.length:=by rw [hrs,List.length_map]
  obtain ⟨gf,cf,rfl,-,-⟩:=h.r.any (i:=1) rfl;rw [hxl]
  repeat refine zX rfl ?_
  refine zL rfl (h.r.xcell (i:=0) rfl (j:=3) rfl) ?_
  repeat refine zX rfl ?_
  refine zC rfl (co _ _) ?_
  repeat refine zX rfl ?_
  exact aj ⟨⟨rfl,rfl,rfl,rfl,rfl,rfl,rfl,trivial⟩,rfl⟩
 subst hw;refine cond hS rfl (fun hT=>wp_skip ?_) (fun hF'=>?_)
 rotate_left
 ·have hii : s.rows.length ≤ i:=by have:=of_decide_eq_false hF'; omega
  have hsF : s = F:=by rw [← hgo,ob hii]
  have hie : i = s.rows.length:=by omega
  rw [hie,List.take_length] at h;subst hsF;refine wp_exit ?_
  repeat first|refine bf ?_|refine ba ?_|refine az rfl ?_
  refine wp_seq (b6 [(10,vn),(11,.bool true)] af dc (by kernel_rfl) hS ?_ (fun a w6 hS hw=>?_))
  ·obtain ⟨mb,vf,xs,h,hrs,hm,hb,hin⟩:=h;have hxl : s.rows.length = xs.length:=by rw [hrs,List.length_map]
   obtain ⟨gf,cf,rfl,-,-⟩:=h.r.any (i:=1) rfl
   repeat refine qX rfl ?_
   refine qL rfl (h.r.xcell (i:=0) rfl (j:=3) rfl) ?_
   repeat refine qX rfl ?_
   refine qC rfl (decide_eq_true (show (xs.length : Int) ≤ (lim : Int) by omega)) ?_
   repeat refine qX rfl ?_
   exact fa ⟨rfl,rfl,trivial⟩
  refine wp_ret ?_
  repeat first|refine a8 ?_|refine am ?_
  exact n8 (ret2 hS rfl rfl rfl ⟨vn,vs,rfl,by omega,hI,h.below hw⟩)
 have hii : i < s.rows.length:=of_decide_eq_true hT;obtain ⟨g,rfl⟩ : ∃ g',g = g' + 1:=⟨g - 1,by omega⟩;rw [l0 hii] at hgo;obtain ⟨r,hre⟩ : ∃ r,r = s.rows.getD i 0:=⟨_,rfl⟩;have hri : s.rows[i] = r:=by rw [hre]; simp [List.getD_eq_getElem?_getD,hii]
 rw [← hre] at hgo;obtain ⟨hr0,hrn,-⟩:=hI.ok.r r (by rw [← hri]; exact List.getElem_mem hii);have hrt:=hr r hr0 hrn;obtain ⟨hIL,hLL⟩:=jo hI hrt L (Nat.le_refl _)
 have hrl : s.rows.length ≤ (FS.row next r L s).rows.length:=by
  have:=hLL.rows (s.rows.length - 1) s.rows[s.rows.length - 1] (by simp)
  have:=(List.getElem?_eq_some_iff.1 this).1
  omega
 have hFl : FLe n (FS.row next r L s) F:=by
  rw [← hgo];exact (kj (L:=L) hr g (i + 1) _ hIL (by omega) (by omega)).2.1
 have hva : ∀ c,c < L → plcM ((FS.row next r c s).num (tgtM next r c)).place (tgtM next r c) = plcM F.place (tgtM next r c):=fun c hc=>se hI hrt hc hFl;obtain ⟨v,hve⟩ : ∃ v : Nat → Int,v = fun c=>plcM F.place (tgtM next r c):=⟨_,rfl⟩;obtain ⟨NR,hNR⟩ : ∃ NR,NR = dk vn vs ((s.rows.take i).map (bj F.place next L)) ++ rest:=⟨_,rfl⟩;rw [← hNR] at h;have hNRr : ∀ {w'},Hold base w0 w' NR → Hold base w0 w' rest:=fun h=>by rw [hNR] at h; exact h.drop
 refine wp_seq (wp_block (wp_seq (bg (α:=Nat) (fun gc=>[(0,Vp fb),(2,Vi L),(3,Vi lim),(4,.func (.func S) #[] caps),(10,vn),(12,Vi i),(13,Vs gc L L)]) (fun gc w'=>md base w0 w' fb W n s (oI (Vs gc L L) (rowZ L 0 v) :: NR)) af hS ?_ (fun gc a w6 hS h=>?_))))
 ·obtain ⟨mb,vf,xs,h,hrs,hm,hb,hin⟩:=h;have h2:=(h.makeI (n:=L) (by omega)).perm (List.Perm.trans (.swap _ _ _) (.cons _ (.swap _ _ _)));rw [afh L v] at h2
  repeat refine zX rfl ?_
  refine zM (L) rfl rfl rfl rfl rfl ((by show 8 * _ ≤ _; omega)) ((by omega)) ?_
  repeat refine zX rfl ?_
  exact aj ⟨_,⟨rfl,rfl,rfl,rfl,rfl,rfl,rfl,trivial⟩,mb,vf,xs,h2,hrs,hm.below (ao _ _),hb,hin⟩
 refine wp_seq (wp_seq (ai [(0,Vp fb),(2,Vi L),(3,Vi lim),(4,.func (.func S) #[] caps),(10,vn),(12,Vi i),(13,Vs gc L L),(29,Vi L),(30,Vi (0 : Nat))] (· = w6) af hS ?_ (fun a w7 hS hw=>?_)))
 ·repeat refine zX rfl ?_
  exact aj ⟨⟨rfl,rfl,rfl,rfl,rfl,rfl,rfl,rfl,rfl,trivial⟩,rfl⟩
 subst hw;refine wp_block (cz hS (fun γ E w'=>∃ c : Nat,c ≤ L ∧ γ = L - c ∧ E = [(0,Vp fb),(2,Vi L),(3,Vi lim),(4,.func (.func S) #[] caps),(10,vn),(12,Vi i),(13,Vs gc L L),(29,Vi L),(30,Vi c)] ∧ md base w0 w' fb W n (FS.row next r c s) (oI (Vs gc L L) (rowZ L c v) :: NR)) L ⟨0,by omega,by omega,rfl,h⟩ ?_);clear hS h;rintro γ E w8 a ⟨c,hc,rfl,rfl,h⟩ hS;refine wp_seq (ai [(0,Vp fb),(2,Vi L),(3,Vi lim),(4,.func (.func S) #[] caps),(10,vn),(12,Vi i),(13,Vs gc L L),(29,Vi L),(30,Vi c),(31,.bool (decide (c < L)))] (· = w8) af hS ?_ (fun a w9 hS hw=>?_))
 ·repeat refine zX rfl ?_
  refine zC rfl (co _ _) ?_
  repeat refine zX rfl ?_
  exact aj ⟨⟨rfl,rfl,rfl,rfl,rfl,rfl,rfl,rfl,rfl,rfl,trivial⟩,rfl⟩
 subst hw;refine wp_seq (cond hS rfl (fun hT=>wp_skip ?_) (fun hF'=>?_))
 rotate_left
 ·have hcc : L = c:=by have:=of_decide_eq_false hF'; omega
  subst hcc;refine wp_exit ?_
  repeat first|refine bf ?_|refine ba ?_|refine az rfl ?_
  rw [afg,hve] at h;refine bg (α:=Value) (fun vn'=>[(0,Vp fb),(2,Vi L),(3,Vi lim),(4,.func (.func S) #[] caps),(10,vn'),(12,Vi i)]) (fun vn' w'=>md base w0 w' fb W n (FS.row next r L s) (dk vn' (vs ++ [Vs gc L L]) ((s.rows.take (i + 1)).map (bj F.place next L)) ++ rest)) af hS ?_ (fun vn' a w10 hS h=>?_)
  ·obtain ⟨mb,vf,xs,h,hrs,hm,hb,hin⟩:=h;subst hNR;obtain ⟨gvp,cvp,rfl,-⟩:=h.r.any (i:=3) (v:=vn) (e:=34) (s:=1) (n:=vs.length) (xs:=vs) rfl
   repeat refine zX rfl ?_
   refine b8 rfl rfl rfl ?_;refine exI [(0,Vs gc L L)] (exI #[Vs gc L L] (anI (anI rfl rfl) (anI (by decide) (anI (uh _ _ _ _) ?_))));have hal:=ao w9 (.cells #[Vs gc L L] 34);have h3:=h.alloc (.cells #[Vs gc L L] 34);have hm4:=hm.below hal
   have ask : AppAsk (w9.alloc (.cells #[Vs gc L L] 34)) ⟨34,.slice 3,1,24,.slice none 0 0⟩ (.slice gvp vs.length cvp) vs.length vs (Vs w9.heap.size 1 1) 1 [Vs gc L L] base:=
    ⟨h3.r.1 3 _ rfl,.inr ⟨_,0,_,rfl,ax rfl,trivial⟩,rfl,(by simp [Value.oneCell']),(by omega),(by show (vs.length + 1) * 24 ≤ _; omega),h3.s⟩
   refine b8 rfl rfl rfl ?_;refine exI _ (exI _ (exI _ (exI _ (exI _ (anI (ask) (anI (fun _ h=>h.symm) (anI (by decide) ?_)))))));rintro v' w16 hown2 hgr - hat;have h4:=h3.app (i:=3) rfl hown2 hgr hat;have hm5:=hm4.row h3.r (i:=3) rfl hgr
   repeat refine zX rfl ?_
   refine aj ⟨v',⟨rfl,rfl,rfl,rfl,rfl,rfl,trivial⟩,mb,vf,xs,?_,hrs,hm5,hb,hin⟩;have hlen : vs.length = ((s.rows.take i).map (bj F.place next L)).length:=by simp; omega
   rw [List.take_succ_eq_append_getElem hii,List.map_append,List.map_singleton,mo hlen,hri];refine h4.perm ?_;obtain ⟨Z,hZ⟩ : ∃ Z,Z = List.zipWith (fun v l=>oI v l) vs ((s.rows.take i).map (bj F.place next L)):=⟨_,rfl⟩;show List.Perm (_ :: _ :: oI (Vs gc L L) ((List.range L).map fun d=>plcM F.place (tgtM next r d)) :: _ :: (List.zipWith (fun v l=>oI v l) vs ((s.rows.take i).map (bj F.place next L)) ++ rest)) (_ :: _ :: _ :: ((List.zipWith (fun v l=>oI v l) vs ((s.rows.take i).map (bj F.place next L)) ++ [oI (Vs gc L L) (bj F.place next L r)]) ++ rest));rw [← hZ];refine .cons _ (.cons _ ((List.Perm.swap _ _ _).trans (.cons _ ?_)));rw [List.append_assoc];exact (List.perm_middle (l₁:=Z) (l₂:=rest)).symm
  refine ay ?_;refine ai [(0,Vp fb),(2,Vi L),(3,Vi lim),(4,.func (.func S) #[] caps),(10,vn'),(12,Vi (i + 1 : Nat))] (· = w10) af hS ?_ (fun a w11 hS hw=>?_)
  ·repeat refine zX rfl ?_
   refine zN rfl (bm i 1 (by omega)) ?_
   repeat refine zX rfl ?_
   exact aj ⟨⟨rfl,rfl,rfl,rfl,rfl,rfl,trivial⟩,rfl⟩
  subst hw;refine ⟨g,_,by omega,⟨i + 1,FS.row next r L s,vn',vs ++ [Vs gc L L],rfl,hIL,by omega,hgo,by omega,by simp [hvs],?_⟩,hS⟩
  have e : (FS.row next r L s).rows.take (i + 1) = s.rows.take (i + 1):=by
   refine List.ext_getElem (by simp; omega) fun j h1 h2=>?_;have hj : j < s.rows.length:=by simp at h2; omega
   have:=hLL.rows j s.rows[j] (by simp [hj])
   simp only [List.getElem_take];exact (List.getElem?_eq_some_iff.1 this).2
  rw [e]; exact h
 have hcc : c < L:=of_decide_eq_true hT;obtain ⟨hIc,-⟩:=jo hI hrt c (by omega);obtain ⟨hIc1,hLc⟩:=jo hI hrt (c + 1) (by omega);refine wp_seq (wp_block (wp_seq (ai [(0,Vp fb),(2,Vi L),(3,Vi lim),(4,.func (.func S) #[] caps),(10,vn),(12,Vi i),(13,Vs gc L L),(29,Vi L),(30,Vi c),(14,Vi c)] (· = w9) af hS ?_ (fun a w10 hS hw=>?_))))
 ·repeat refine zX rfl ?_
  exact aj ⟨⟨rfl,rfl,rfl,rfl,rfl,rfl,rfl,rfl,rfl,rfl,trivial⟩,rfl⟩
 subst hw;refine wp_seq (ai [(0,Vp fb),(2,Vi L),(3,Vi lim),(4,.func (.func S) #[] caps),(10,vn),(12,Vi i),(13,Vs gc L L),(29,Vi L),(30,Vi c)] (fun w'=>md base w0 w' fb W n (FS.row next r (c + 1) s) (oI (Vs gc L L) (rowZ L (c + 1) v) :: NR)) af hS ?_ (fun a w11 hS h=>?_))
 ·obtain ⟨mb,vf,xs,h,hrs,hm,hb,hin⟩:=h;obtain ⟨-,hLc0⟩:=jo hI hrt c (by omega);have hxl : (FS.row next r c s).rows.length = xs.length:=by rw [hrs,List.length_map]
  have hir:=hLc0.rows i r (by rw [← hri]; simp [hii]);obtain ⟨hi2,hir2⟩:=List.getElem?_eq_some_iff.1 hir;have hix : i < xs.length:=by omega
  obtain ⟨y,hye⟩ : ∃ y,y = xs[i]:=⟨_,rfl⟩
  have hyr : ((plc W y.1 y.2 : Nat) : Int) = r:=by
   rw [← hir2,hye];simp only [hrs,List.getElem_map]
  have hyn : inR W n y:=by rw [hye]; exact hin _ (List.getElem_mem hix)
  obtain ⟨gf,cf,rfl,-⟩:=h.r.nilOr (i:=1) rfl (by omega);have hcell:=h.r.cP (i:=1) rfl hix;rw [← hye] at hcell
  repeat refine zX rfl ?_
  refine zL rfl (h.r.xcell (i:=0) rfl (j:=3) rfl) ?_
  repeat refine zX rfl ?_
  refine zI rfl (rfl) (hix) ?_;refine zA ([Vi y.1,Vi y.2]) rfl rfl (hcell) ?_
  repeat refine zX rfl ?_
  refine zF rfl (hen) (hstep y c w10 hyn hcc (hNRr h.tail.tail.tail)) ?_;rintro e w11 ⟨z,hzn,rfl,hzt,hw⟩;refine ⟨_,rfl,?_⟩;rw [hyr] at hzt;have hfn : md base w0 w11 fb W n (FS.row next r c s) (oI (Vs gc L L) (rowZ L c v) :: NR):=⟨mb,_,xs,h.below hw,hrs,hm.below hw,hb,hin⟩
  repeat refine zX rfl ?_
  refine zF rfl (vj) (sd hfn hIc (by omega) (by have:=hIc.ok.cap; omega) hzn) ?_;rintro e w12 ⟨rfl,h12⟩;refine ⟨_,rfl,?_⟩;rw [← hzt,hva c hcc];rw [← hzt,← FS.step_num,← FS.row_succ] at h12;obtain ⟨mb,vf,xs,h,hrs,hm,hb,hin⟩:=h12;have hzl : c < (rowZ L c v).length:=by rw [wk]; exact hcc
  have hst:=h.storeI (i:=2) rfl c (plcM F.place (tgtM next r c));rw [show (rowZ L c v).set c (plcM F.place (tgtM next r c)) = rowZ L (c + 1) v by rw [← wj v hcc,hve]] at hst
  repeat refine zX rfl ?_
  refine zI rfl (rfl) (hcc) ?_;refine zS rfl rfl (h.r.cellI (i:=2) rfl hzl) (h.r.free (i:=2) rfl _) ?_;exact aj ⟨⟨rfl,rfl,rfl,rfl,rfl,rfl,rfl,rfl,rfl,trivial⟩,mb,vf,xs,hst,hrs,hm.store h.r (i:=2) rfl,hb,hin⟩
 refine wp_seq (ai [(0,Vp fb),(2,Vi L),(3,Vi lim),(4,.func (.func S) #[] caps),(10,vn),(12,Vi i),(13,Vs gc L L),(29,Vi L),(30,Vi c),(54,.bool false)] (· = w11) af hS ?_ (fun a w12 hS hw=>?_))
 ·obtain ⟨mb,vf,xs,h,hrs,hm,hb,hin⟩:=h;have hxl : (FS.row next r (c + 1) s).rows.length = xs.length:=by rw [hrs,List.length_map]
  have:=hIc1.ok.cap
  obtain ⟨gf,cf,rfl,-,-⟩:=h.r.any (i:=1) rfl
  repeat refine zX rfl ?_
  refine zL rfl (h.r.xcell (i:=0) rfl (j:=3) rfl) ?_
  repeat refine zX rfl ?_
  refine zC rfl (decide_eq_false (show ¬ ((lim : Int) < (xs.length : Int)) by omega)) ?_
  repeat refine zX rfl ?_
  exact aj ⟨⟨rfl,rfl,rfl,rfl,rfl,rfl,rfl,rfl,rfl,rfl,trivial⟩,rfl⟩
 subst hw;refine cond hS rfl (fun hT=>by cases hT) (fun hF'=>wp_skip ?_);refine ay ?_;refine ai [(0,Vp fb),(2,Vi L),(3,Vi lim),(4,.func (.func S) #[] caps),(10,vn),(12,Vi i),(13,Vs gc L L),(29,Vi L),(30,Vi (c + 1 : Nat))] (· = w12) af hS ?_ (fun a w13 hS hw=>?_)
 ·repeat refine zX rfl ?_
  refine zN rfl (bm c 1 (by omega)) ?_
  repeat refine zX rfl ?_
  exact aj ⟨⟨rfl,rfl,rfl,rfl,rfl,rfl,rfl,rfl,rfl,trivial⟩,rfl⟩
 subst hw;exact ⟨L - (c + 1),_,by omega,⟨c + 1,by omega,rfl,rfl,h⟩,hS⟩
end
end
section
open Go Sym
theorem ad0 : bk Tryz.prog 42 = true:=by kernel_rfl
def decP (W k : Nat) : Int × Int:=(((k / W : Nat) : Int) - 1,((k % W : Nat) : Int) - 1)
def relN (L W n : Nat) (n1 n2 : List (List Int)) : List (List Int):=(List.range n).map fun k=>(List.range L).map fun c=>cdP W (np n1 n2 (decP W k) c)
theorem pm (p : Int × Int) : ni false p ↔ p.1 < 0 ∧ p.2 < 0:=by
 unfold ni aao;simp
theorem rj {W : Nat} {p : Int × Int} : (cdP W p < 0) ↔ ni false p:=by
 rw [pm];unfold cdP
 split <;> omega
theorem dec_plc {W n : Nat} {x : Int × Int} (h : inR W n x) : decP W (plc W x.1 x.2) = x:=by
 have e1 : plc W x.1 x.2 % W = (x.2 + 1).toNat:=by
  unfold plc;rw [Nat.add_comm,Nat.add_mul_mod_self_right,Nat.mod_eq_of_lt (by have:=h.2.2.1; have:=h.2.1; omega)]
 have e2 : plc W x.1 x.2 / W = (x.1 + 1).toNat:=by
  unfold plc;rw [Nat.mul_comm,Nat.mul_add_div (by have:=h.2.2.1; have:=h.2.1; omega),Nat.div_eq_of_lt (by have:=h.2.2.1; have:=h.2.1; omega),Nat.add_zero]
 have h1:=h.1;have h2:=h.2.1;unfold decP;rw [e1,e2];exact Prod.ext (by show ((x.1 + 1).toNat : Int) - 1 = x.1; omega) (by show ((x.2 + 1).toNat : Int) - 1 = x.2; omega)
section
variable {L W n : Nat} {n1 n2 : List (List Int)} {f1 f2 : List Bool} {s1 s2 : Int}
structure PairsI (L W n : Nat) (s1 : Int) (n1 : List (List Int)) (f1 : List Bool) (s2 : Int) (n2 : List (List Int)) (f2 : List Bool) : Prop where
 h1 : Shape (L : Int) s1 n1 f1
 h2 : Shape (L : Int) s2 n2 f2
 eW : W = n2.length + 1
 en : n = (n1.length + 1) * W
 l1 : n1.length ≤ 4000
 l2 : n2.length ≤ 4000
theorem PairsI.mk' (h : PairsI L W n s1 n1 f1 s2 n2 f2) {x : Int × Int} (a1 : -1 ≤ x.1) (a2 : x.1 < n1.length) (a3 : -1 ≤ x.2) (a4 : x.2 < n2.length) : inR W n x:=by
 have:=h.l1
 have:=h.l2
 refine ⟨a1,a3,by rw [h.eW]; omega,by omega,by rw [h.eW]; omega,?_⟩;rw [h.en,h.eW]; exact aj9 a2 a4
theorem PairsI.rng (h : PairsI L W n s1 n1 f1 s2 n2 f2) {x : Int × Int} (hx : inR W n x) : x.1 < n1.length ∧ x.2 < n2.length:=by
 have h3:=hx.2.2.2.2.2;have h4:=hx.2.2.1;have hW:=h.eW;refine ⟨?_,by omega⟩;rw [h.en] at h3;have : (x.1 + 1).toNat * W < (n1.length + 1) * W:=Nat.lt_of_le_of_lt (Nat.le_add_right _ _) h3
 have:=Nat.lt_of_mul_lt_mul_right this
 omega
theorem PairsI.stepR (h : PairsI L W n s1 n1 f1 s2 n2 f2) {x : Int × Int} (hx : inR W n x) {c : Nat} (hc : c < L) : inR W n (np n1 n2 x c):=by
 obtain ⟨r1,r2⟩:=h.rng hx;have a1:=e8 h.h1 (st:=x.1) (l:=c) r1 (by omega) (by omega);have a2:=e8 h.h2 (st:=x.2) (l:=c) r2 (by omega) (by omega);exact h.mk' a1.1 a1.2 a2.1 a2.2
theorem PairsI.decR (h : PairsI L W n s1 n1 f1 s2 n2 f2) {k : Nat} (hk : k < n) : inR W n (decP W k):=by
 have hW:=h.eW;have hn:=h.en;have d1 : k / W < n1.length + 1:=Nat.div_lt_of_lt_mul (by rw [Nat.mul_comm,← hn]; exact hk);have d2 : k % W < W:=Nat.mod_lt _ (by omega);obtain ⟨a,ha⟩ : ∃ a,a = k / W:=⟨_,rfl⟩;obtain ⟨b,hb⟩ : ∃ b,b = k % W:=⟨_,rfl⟩;have e : decP W k = ((a : Int) - 1,(b : Int) - 1):=by rw [decP,ha,hb]
 rw [← ha] at d1;rw [← hb] at d2;rw [e];refine h.mk' ?_ ?_ ?_ ?_ <;> (dsimp only; omega)
theorem PairsI.tgt (h : PairsI L W n s1 n1 f1 s2 n2 f2) {x : Int × Int} (hx : inR W n x) {c : Nat} (hc : c < L) : tgtM (relN L W n n1 n2) (plc W x.1 x.2 : Int) c = cdP W (np n1 n2 x c):=by
 have hlt:=hx.2.2.2.2.2;rw [tgtM,Int.toNat_natCast];simp only [relN,List.getD_eq_getElem?_getD,List.getElem?_map,List.getElem?_range hlt,Option.map_some,Option.getD_some,List.getElem?_range hc];rw [dec_plc hx]
theorem PairsI.len : (relN L W n n1 n2).length = n:=by simp [relN]
theorem PairsI.shape (h : PairsI L W n s1 n1 f1 s2 n2 f2) : Shape (L : Int) 0 (relN L W n n1 n2) (List.replicate n false):=by
 have hn0 : 0 < n:=by rw [h.en,h.eW]; exact Nat.mul_pos (by omega) (by omega)
 refine ⟨by omega,by rw [PairsI.len]; simp,by omega,by rw [PairsI.len]; omega,fun _=>by omega,fun k hk=>?_⟩;have hk' : k < n:=by rw [PairsI.len] at hk; exact hk
 rw [PairsI.len];simp only [relN,List.getElem_map,List.getElem_range,List.length_map,List.length_range];exact ⟨trivial,fun j hj=>zd (h.stepR (h.decR hk') (by simpa using hj))⟩
theorem PairsI.mem (h : PairsI L W n s1 n1 f1 s2 n2 f2) {F : FS} (hF : d7 (cdP W (s1,s2)) (relN L W n n1 n2) L = F) (hFo : Found (cdP W (s1,s2)) (relN L W n n1 n2) L F) {xs : List (Int × Int)} (hrs : F.rows = xs.map fun x=>(plc W x.1 x.2 : Int)) (hin : ∀ x ∈ xs,inR W n x) (x : Int × Int) :
  x ∈ xs ↔ ¬ ni false x ∧ ∃ u,Word L u ∧ run2 n1 n2 (s1,s2) u = x:=by
 have hs : inR W n (s1,s2):=h.mk' h.h1.s1 h.h1.s2 h.h2.s1 h.h2.s2;have hs0:=zd hs
 constructor
 ·intro hx;have hz : (plc W x.1 x.2 : Int) ∈ F.rows:=by rw [hrs]; exact List.mem_map.2 ⟨x,hx,rfl⟩
  have key:=abu (L:=L) (next:=relN L W n n1 n2) (P:=fun z=>∃ u,Word L u ∧ inR W n (run2 n1 n2 (s1,s2) u) ∧ ¬ ni false (run2 n1 n2 (s1,s2) u) ∧ z = plc W (run2 n1 n2 (s1,s2) u).1 (run2 n1 n2 (s1,s2) u).2) (by
   rintro r ⟨u,hu,hr,hg,rfl⟩ c hc h0;rw [h.tgt hr hc] at h0 ⊢;refine ⟨u ++ [c],fun a ha=>?_,?_⟩
   ·rcases List.mem_append.1 ha with ha | ha
    ·exact hu a ha
    ·rw [List.mem_singleton.1 ha]; exact hc
   ·rw [afc]
    have hng : ¬ ni false (np n1 n2 (run2 n1 n2 (s1,s2) u) c):=fun k=>by
     have:=(rj (W:=W)).2 k; omega
    refine ⟨h.stepR hr hc,hng,?_⟩;rw [pm] at hng;rw [cdP,if_neg hng]) (relN L W n n1 n2).length 0 ((FS.none (relN L W n n1 n2).length).num (cdP W (s1,s2))) (fun z hz=>by
   rw [FS.num] at hz
   split at hz
   ·rename_i h0;simp only [FS.none,List.nil_append,List.mem_singleton] at hz;subst hz
    have hng : ¬ ni false (s1,s2):=fun k=>by
     have:=(rj (W:=W)).2 k; omega
    refine ⟨[],Word.nil _,hs,hng,?_⟩;rw [pm] at hng;rw [cdP,if_neg hng]; rfl
   ·simp [FS.none] at hz) (plc W x.1 x.2 : Int) (by
    rw [← js (by rw [PairsI.len]; exact hs0.2) hs0.1,hF]; exact hz)
  obtain ⟨u,hu,hr,hg,he⟩:=key;have hxr:=hin x hx;obtain ⟨e1,e2⟩:=qb hxr.1 hxr.2.1 hr.1 hr.2.1 hxr.2.2.1 hr.2.2.1 (by omega);have e : x = run2 n1 n2 (s1,s2) u:=Prod.ext e1 e2;exact ⟨e ▸ hg,u,hu,e.symm⟩
 ·rintro ⟨hg,u,hu,rfl⟩
  have back : ∀ (u : List Nat) (p : Int × Int),Word L u → inR W n p → (ni false p ∨ p ∈ xs) → ni false (run2 n1 n2 p u) ∨ run2 n1 n2 p u ∈ xs:=by
   intro u
   induction u with
   | nil=>exact fun p _ _ h=>h
   | cons c u ih=>
     intro p hu hp hpg;refine ih _ hu.tail (h.stepR hp hu.head) ?_
     rcases hpg with hpg | hpx
     ·exact .inl (agp hpg c)
     ·by_cases hgs : ni false (np n1 n2 p c)
      ·exact .inl hgs
      ·refine .inr ?_;have hz : (plc W p.1 p.2 : Int) ∈ F.rows:=by rw [hrs]; exact List.mem_map.2 ⟨p,hpx,rfl⟩
       obtain ⟨j,hj,hje⟩:=List.getElem_of_mem hz;have hc:=hFo.closed j hj c hu.head;rw [hje,h.tgt hp hu.head] at hc;have h0 : 0 ≤ cdP W (np n1 n2 p c):=Int.not_lt.1 fun k=>hgs (rj.1 k);have hc:=hc h0;have hsr:=h.stepR hp hu.head;obtain ⟨t,ht⟩:=Int.eq_ofNat_of_zero_le h0;have hlt:=(zd hsr).2;rw [ht,plcM,if_pos (by omega)] at hc;simp only [Int.toNat_natCast] at hc;obtain ⟨i,-,hi⟩:=hFo.inn.of t (by rw [PairsI.len]; omega) hc;obtain ⟨hi1,hi2⟩:=List.getElem?_eq_some_iff.1 hi;have hm : (t : Int) ∈ F.rows:=hi2 ▸ List.getElem_mem hi1;rw [hrs] at hm;obtain ⟨y,hy,hye⟩:=List.mem_map.1 hm;have hyr:=hin y hy;rw [pm] at hgs;rw [cdP,if_neg hgs] at ht;obtain ⟨e1,e2⟩:=qb hyr.1 hyr.2.1 hsr.1 hsr.2.1 hyr.2.2.1 hsr.2.2.1 (by omega);have e : y = np n1 n2 p c:=Prod.ext e1 e2;rw [← e]; exact hy
  refine (back u (s1,s2) hu hs ?_).resolve_left hg
  by_cases hg0 : ni false (s1,s2)
  ·exact .inl hg0
  ·refine .inr ?_;have h0 : 0 ≤ cdP W (s1,s2):=Int.not_lt.1 fun k=>hg0 (rj.1 k);have h1:=(hFo.first h0).1;obtain ⟨hi1,hi2⟩:=List.getElem?_eq_some_iff.1 h1;have hm : cdP W (s1,s2) ∈ F.rows:=hi2 ▸ List.getElem_mem hi1;rw [hrs] at hm;obtain ⟨y,hy,hye⟩:=List.mem_map.1 hm;have hyr:=hin y hy;rw [pm] at hg0;rw [cdP,if_neg hg0] at hye;obtain ⟨e1,e2⟩:=qb hyr.1 hyr.2.1 hs.1 hs.2.1 hyr.2.2.1 hs.2.2.1 (by omega);have e : y = (s1,s2):=Prod.ext e1 e2;rw [← e]; exact hy
theorem PairsI.rel (h : PairsI L W n s1 n1 f1 s2 n2 f2) {F : FS} (hF : d7 (cdP W (s1,s2)) (relN L W n n1 n2) L = F) (hFo : Found (cdP W (s1,s2)) (relN L W n n1 n2) L F) {xs ys : List (Int × Int)} (hrs : F.rows = xs.map fun x=>(plc W x.1 x.2 : Int)) (hin : ∀ x ∈ xs,inR W n x)
  (hp : ys.Perm xs) (hs : ys.Pairwise fun x y=>¬ befP y x) : RelI L n1 n2 (s1,s2) ys:=by
 have hnd : xs.Nodup:=by
  have:=hFo.inn.ok.d
  rw [hrs] at this;exact List.Pairwise.of_map (S:=(· ≠ ·)) _ (fun a b h e=>h (by rw [e])) this
 have hnd2:=(hp.nodup_iff).2 hnd;refine ⟨?_,fun p=>by rw [hp.mem_iff]; exact h.mem hF hFo hrs hin p⟩;exact (hs.and hnd2).imp fun ⟨a,b⟩=>befP.tri a (Ne.symm b)
end
end
section
open Go Sym
section
variable {base : Nat} {w0 w w' : World} {l rest : List Ow}
end
end
section
open Go Sym
theorem ads {L s s0 : Int} {next : List (List Int)} {fin : List Bool} (h : Shape L s0 next fin) {f : FS} (hf : Found s next L.toNat f) :
  Shape L (if f.rows.length = 0 then -1 else 0) (f.rows.map (bj f.place next L.toNat)) (bt f fin) ∧
   dq L.toNat (f.rows.map (bj f.place next L.toNat)) (bt f fin) (if f.rows.length = 0 then -1 else 0) next fin s:=by
 have hlen : (f.rows.map (bj f.place next L.toNat)).length = f.rows.length:=by simp
 have hrow : ∀ j (hj : j < f.rows.length),∃ k : Nat,k < next.length ∧ f.rows[j] = k ∧ plcM f.place k = j:=fun j hj=>by
  obtain ⟨a,b,_⟩:=hf.inn.ok.r _ (List.getElem_mem hj);obtain ⟨k,hk⟩:=Int.eq_ofNat_of_zero_le a;refine ⟨k,by omega,hk,?_⟩
  have:=hf.inn.at' j hj
  rw [hk] at this;rw [plcM,if_pos (by omega)]; exact this
 have hal : ∀ j (hj : j < f.rows.length),dq L.toNat (f.rows.map (bj f.place next L.toNat)) (bt f fin) j next fin f.rows[j]:=fun j hj w hw=>by
  obtain ⟨k,k1,k2,k3⟩:=hrow j hj;rw [k2,← ql h hf w k hw (by omega) (fun _=>by omega),k3]
 have hpos : 0 < f.rows.length ↔ 0 ≤ s:=by
  constructor
  ·intro h0;refine Int.not_lt.1 fun hn=>?_;rw [hf.none hn] at h0;simp at h0
  ·intro h0;exact (List.getElem?_eq_some_iff.1 (hf.first h0).1).1
 refine ⟨⟨h.L0,by simp [bt],by split <;> omega,by split <;> omega,fun h0=>?_,fun k hk=>?_⟩,?_⟩
 ·rw [hlen] at h0;rw [if_neg (by omega)]; omega
 ·have hk' : k < f.rows.length:=by simpa using hk
  simp only [List.getElem_map];refine ⟨by rw [e7]; have:=h.L0; omega,fun c hc=>?_⟩;rw [it];rw [e7] at hc;rw [show ((List.map (bj f.place next L.toNat) f.rows).length : Int) = f.rows.length by simp];obtain ⟨r,r1,r2,r3⟩:=hrow k hk';obtain ⟨t1,t2⟩:=dm h f.rows[k] (by omega) (by omega) c hc
  by_cases hneg : tgtM next f.rows[k] c < 0
  ·rw [gj hneg]; omega
  ·have hc2:=hf.closed k hk' c hc (by omega);obtain ⟨t,ht⟩:=Int.eq_ofNat_of_zero_le (Int.not_lt.1 hneg);rw [ht] at hc2 t2 ⊢;have hpe : plcM f.place t = f.place.getD t 0:=by rw [plcM,if_pos (by omega)]; rfl
   rw [hpe] at hc2 ⊢;obtain ⟨j,e1,e2⟩:=hf.inn.of t (by omega) hc2
   have:=(List.getElem?_eq_some_iff.1 e2).1
   omega
 ·split
  ·rename_i h0
   have hs : s < 0:=by
    refine Int.not_le.1 fun hn=>?_
    have:=hpos.2 hn
    omega
   intro w _;rw [di _ _ w (by decide),di _ _ w hs]
  ·rename_i h0;have hs:=hpos.1 (by omega);obtain ⟨g1,g2⟩:=hf.first hs;obtain ⟨g3,g4⟩:=List.getElem?_eq_some_iff.1 g1
   have:=hal 0 g3
   rwa [g4] at this
section
variable {L W n : Nat} {n1 n2 : List (List Int)} {f1 f2 : List Bool} {s1 s2 : Int} {both : Bool}
end
end
section
abbrev bitP (x : Nat) (j : Nat) : Prop:=x.testBit j = true
noncomputable def pg (S : Nat → Prop) : Nat → Nat
 | 0=>0
 | n + 1=>by classical exact pg S n ||| (if S n then 2 ^ n else 0)
theorem qi (S : Nat → Prop) : ∀ (n j : Nat),(pg S n).testBit j = true ↔ j < n ∧ S j
 | 0,j=>by simp [pg]
 | n + 1,j=>by
   rw [pg,Nat.testBit_or,Bool.or_eq_true,qi S n j]
   by_cases h : S n
   ·rw [if_pos h,Nat.testBit_two_pow,decide_eq_true_eq]
    constructor
    ·rintro (⟨h1,h2⟩ | rfl)
     ·exact ⟨by omega,h2⟩
     ·exact ⟨by omega,h⟩
    ·rintro ⟨h1,h2⟩
     by_cases e : n = j
     ·exact .inr e
     ·exact .inl ⟨by omega,h2⟩
   ·rw [if_neg h,Nat.zero_testBit]
    constructor
    ·rintro (⟨h1,h2⟩ | h1)
     ·exact ⟨by omega,h2⟩
     ·cases h1
    ·rintro ⟨h1,h2⟩;refine .inl ⟨?_,h2⟩
     rcases Nat.lt_or_ge j n with e | e
     ·exact e
     ·obtain rfl : j = n:=by omega
      exact (h h2).elim
theorem lu (S : Nat → Prop) : ∀ n,pg S n < 2 ^ n
 | 0=>by simp [pg]
 | n + 1=>by
   rw [pg];have h1:=lu S n;have h2 : (2 : Nat) ^ n < 2 ^ (n + 1):=Nat.pow_lt_pow_right (by omega) (by omega);refine Nat.or_lt_two_pow (by omega) ?_
   split
   ·exact h2
   ·exact Nat.two_pow_pos _
theorem tj {x n j : Nat} (hx : x < 2 ^ n) (h : bitP x j) : j < n:=by
 refine Nat.lt_of_not_le fun hle=>?_;rw [bitP,Nat.testBit_lt_two_pow (Nat.lt_of_lt_of_le hx (Nat.pow_le_pow_right (by omega) hle))] at h
 cases h
theorem ww {x y : Nat} (h : ∀ j,bitP x j ↔ bitP y j) : x = y:=Nat.eq_of_testBit_eq fun j=>Bool.eq_iff_iff.2 (h j)
theorem pf {x : Nat} : x ≠ 0 ↔ ∃ j,bitP x j:=by
 constructor
 ·intro h;refine Classical.byContradiction fun hn=>h (Nat.eq_of_testBit_eq fun j=>?_);rw [Nat.zero_testBit]
  cases e : x.testBit j with
  | false=>rfl
  | true=>exact (hn ⟨j,e⟩).elim
 ·rintro ⟨j,h⟩ rfl;rw [bitP,Nat.zero_testBit] at h
  cases h
section
variable {L n : Nat} {next : List (List Int)} {fin hid : List Bool} {s : Int}
noncomputable def stM (L n : Nat) (next : List (List Int)) (hid : List Bool) (x c : Nat) : Nat:=
 if hidB hid c = true then 0 else pg (HRun L next hid (mc next (HRun L next hid (bitP x) []) c) []) n
noncomputable def kx (L n : Nat) (next : List (List Int)) (hid : List Bool) : List (List Int):=(List.range (2 ^ n)).map fun x=>(List.range L).map fun c=>cd 0 (stM L n next hid x c)
noncomputable def qj (L n : Nat) (next : List (List Int)) (fin hid : List Bool) : List Bool:=by
 classical
 exact (List.range (2 ^ n)).map fun x=>decide (∃ j,HRun L next hid (bitP x) [] j ∧ fin.getD j false = true)
theorem il : (kx L n next hid).length = 2 ^ n:=by simp [kx]
theorem af9 : (qj L n next fin hid).length = 2 ^ n:=by simp [qj]
theorem abq {x c : Nat} : stM L n next hid x c < 2 ^ n:=by
 unfold stM
 split
 ·exact Nat.two_pow_pos n
 ·exact lu _ _
theorem lw {x c : Nat} (hx : x < 2 ^ n) (hc : c < L) : tgtM (kx L n next hid) (x : Int) c = cd 0 (stM L n next hid x c):=by
 rw [tgtM,Int.toNat_natCast];simp only [kx,List.getD_eq_getElem?_getD,List.getElem?_map,List.getElem?_range hx,Option.map_some,Option.getD_some,List.getElem?_range hc]
theorem yn {x : Nat} (hx : x < 2 ^ n) : (qj L n next fin hid).getD x false = true ↔ ∃ j,HRun L next hid (bitP x) [] j ∧ fin.getD j false = true:=by
 simp [qj,List.getD_eq_getElem?_getD,List.getElem?_range hx]
theorem mr : Shape (L : Int) 0 (kx L n next hid) (qj L n next fin hid):=by
 have h0:=Nat.two_pow_pos n;refine ⟨by omega,by rw [il,af9],by omega,by rw [il]; omega,fun _=>by omega,fun k hk=>?_⟩;rw [il];simp only [kx,List.getElem_map,List.getElem_range,List.length_map,List.length_range];exact ⟨trivial,fun j hj=>ul abq⟩
theorem xc {s0 : Int} (hs : Shape (L : Int) s0 next fin) {S : Nat → Prop} (hS : ∀ i,S i → i < next.length) {w : List Nat} {j : Nat} (h : HRun L next hid S w j) : j < next.length:=by
 obtain ⟨i,v,h1,h2,-,h4⟩:=h
 have:=j9 hs v i (by rwa [Int.toNat_natCast]) (by omega) (by have:=hS i h1; omega)
 omega
theorem ai8 {s0 : Int} (hs : Shape (L : Int) s0 next fin) {S : Nat → Prop} (hS : ∀ i,S i → i < next.length) {c j : Nat} (hc : c < L) (h : mc next S c j) : j < next.length:=by
 obtain ⟨i,h1,h2⟩:=h
 have:=e8 hs (st:=i) (l:=c) (by have:=hS i h1; omega) (by omega) (by omega)
 omega
theorem nq {s0 : Int} (hs : Shape (L : Int) s0 next fin) {x c : Nat} (hx : x < 2 ^ next.length) (hc : c < L) (hh : hidB hid c = false) (j : Nat) : bitP (stM L next.length next hid x c) j ↔ HRun L next hid (mc next (HRun L next hid (bitP x) []) c) [] j:=by
 rw [bitP,stM,hh,if_neg (by decide),qi];refine ⟨fun h=>h.2,fun h=>⟨xc hs (fun i hi=>ai8 hs (fun k hk=>xc hs (fun a ha=>tj hx ha) hk) hc hi) h,h⟩⟩
theorem af8 {s0 : Int} (hs : Shape (L : Int) s0 next fin) : SetsI L next fin hid (kx L next.length next hid) (qj L next.length next fin hid) (2 ^ next.length) (fun x=>HRun L next hid (bitP x) []):=by
 refine ⟨fun a _=>HRun.closed,fun a ha=>yn ha,fun a c ha hc hh=>?_,fun a c ha hc hh hneg j hj=>?_,fun a c ha hc hh hpos=>?_⟩
 ·rw [lw ha hc,stM,if_pos hh]
  decide
 ·rw [lw ha hc] at hneg
  have h0 : stM L next.length next hid a c = 0:=by
   unfold cd at hneg
   split at hneg
   ·assumption
   ·omega
  have:=(nq hs ha hc hh j).2 (HRun.self hj)
  rw [h0] at this;exact (pf.2 ⟨j,this⟩ rfl).elim
 ·rw [lw ha hc] at hpos ⊢
  have e : cd 0 (stM L next.length next hid a c) = (stM L next.length next hid a c : Nat):=by
   unfold cd at hpos ⊢
   split at hpos
   ·omega
   ·rw [if_neg (by assumption)]
  rw [e,Int.toNat_natCast];refine ⟨abq,fun j=>?_⟩;exact ⟨fun h=>HCl.least HRun.closed (fun i hi=>(nq hs ha hc hh i).1 hi) h,fun h=>HRun.self ((nq hs ha hc hh j).2 h)⟩
end
section
variable {L : Nat} {next nS : List (List Int)} {fin hid fS : List Bool} {s s0 : Int} {D : Nat → Nat → Prop} {F : FS}
theorem pp (hf : Found s nS L F) {a : Nat} (ha : a < F.rows.length) : ∃ k : Nat,k < nS.length ∧ F.rows[a] = (k : Int) ∧ F.rows.getD a 0 = (k : Int) ∧ plcM F.place k = a:=by
 obtain ⟨b,c,_⟩:=hf.inn.ok.r _ (List.getElem_mem ha);obtain ⟨k,hk⟩:=Int.eq_ofNat_of_zero_le b;refine ⟨k,by omega,hk,by rw [List.getD_eq_getElem?_getD,List.getElem?_eq_getElem ha,Option.getD_some,hk],?_⟩
 have:=hf.inn.at' a ha
 rw [hk] at this;rw [plcM,if_pos (by omega)]; exact this
theorem sw {a c : Nat} (ha : a < F.rows.length) (hc : c < L) : tgtM (F.rows.map (bj F.place nS L)) (a : Int) c = plcM F.place (tgtM nS F.rows[a] c):=by
 rw [tgtM,Int.toNat_natCast];simp [bj,List.getD_eq_getElem?_getD,ha,hc]
theorem adq (hS : Shape (L : Int) s0 nS fS) (h : SetsI L next fin hid nS fS nS.length D) (hf : Found s nS L F) :
  SetsI L next fin hid (F.rows.map (bj F.place nS L)) (bt F fS) F.rows.length (fun a=>D (F.rows.getD a 0).toNat):=by
 refine ⟨fun a ha=>?_,fun a ha=>?_,fun a c ha hc hh=>?_,fun a c ha hc hh hneg j hj=>?_,fun a c ha hc hh hpos=>?_⟩ <;> obtain ⟨k,k1,k2,k3,k4⟩:=pp hf ha
 ·rw [k3]; exact h.cl k k1
 ·rw [k3,Int.toNat_natCast,← h.ends k k1];simp [bt,List.getD_eq_getElem?_getD,ha,k2]
 ·rw [sw ha hc,k2,gj (h.dark k c k1 hc hh)]; decide
 ·rw [sw ha hc,k2] at hneg
  have h0 : tgtM nS k c < 0:=Int.not_le.1 fun hp=>by
   have:=hf.closed a ha c hc (by rw [k2]; exact hp)
   rw [k2] at this;omega
  rw [k3,Int.toNat_natCast] at hj;exact h.gone k c k1 hc hh h0 j hj
 ·rw [sw ha hc,k2] at hpos ⊢;have h0 : 0 ≤ tgtM nS k c:=Int.not_lt.1 fun hn=>by rw [gj hn] at hpos; omega
  obtain ⟨g1,g2⟩:=h.on k c k1 hc hh h0;obtain ⟨t,ht⟩:=Int.eq_ofNat_of_zero_le h0;rw [ht,Int.toNat_natCast] at g1 g2;rw [ht] at hpos ⊢;have hpe : plcM F.place t = F.place.getD t 0:=by rw [plcM,if_pos (by omega)]; rfl
  rw [hpe] at hpos ⊢;obtain ⟨j,e1,e2⟩:=hf.inn.of t g1 hpos;obtain ⟨hj,e3⟩:=List.getElem?_eq_some_iff.1 e2;rw [e1,Int.toNat_natCast];refine ⟨hj,fun i=>?_⟩;rw [k3,show F.rows.getD j 0 = (t : Int) by rw [List.getD_eq_getElem?_getD,e2]; rfl,Int.toNat_natCast,Int.toNat_natCast];exact g2 i
end
section
variable {L : Nat} {next : List (List Int)} {fin hid : List Bool} {sx : Int} {F : FS}
noncomputable def fz (L : Nat) (next : List (List Int)) (hid : List Bool) (sx : Int) : Nat:=pg (HRun L next hid (fun i=>(i : Int) = sx) []) next.length
theorem ig (hs : Shape (L : Int) sx next fin) (j : Nat) : bitP (fz L next hid sx) j ↔ HRun L next hid (fun i=>(i : Int) = sx) [] j:=by
 rw [bitP,fz,qi];exact ⟨fun h=>h.2,fun h=>⟨xc hs (fun i hi=>by have:=hs.s2; omega) h,h⟩⟩
theorem s5 (hs : Shape (L : Int) sx next fin) : (cd 0 (fz L next hid sx)) < 0 ↔ sx < 0:=by
 have hz:=pf (x:=fz L next hid sx)
 constructor
 ·intro h;refine Int.not_le.1 fun h0=>?_;obtain ⟨i,hi⟩:=Int.eq_ofNat_of_zero_le h0
  have:=hz.2 ⟨i,(ig hs i).2 (HRun.self hi.symm)⟩
  rw [cd,if_neg this] at h;omega
 ·intro h
  have : fz L next hid sx = 0:=Classical.byContradiction fun hn=>by
   obtain ⟨j,hj⟩:=hz.1 hn;obtain ⟨i,_,hi,_⟩:=(ig hs j).1 hj;omega
  rw [this]; decide
theorem aaz (hs : Shape (L : Int) sx next fin) (hF : d7 (cd 0 (fz L next hid sx)) (kx L next.length next hid) L = F) : ∀ z ∈ F.rows,0 < z ∧ z < (2 ^ next.length : Nat) ∧ ∃ w,Word L w ∧ ∀ j,bitP z.toNat j ↔ HRun L next hid (fun i=>(i : Int) = sx) w j:=by
 have hlt : fz L next hid sx < 2 ^ next.length:=lu _ _;have hc:=ul (nb:=0) hlt;rw [js (by rw [il]; exact hc.2) hc.1] at hF;rw [← hF];refine abu (L:=L) (P:=fun z=>0 < z ∧ z < (2 ^ next.length : Nat) ∧ ∃ w,Word L w ∧ ∀ j,bitP z.toNat j ↔ HRun L next hid (fun i=>(i : Int) = sx) w j) ?_ _ _ _ ?_
 ·rintro r ⟨r0,r1,w,hw,hb⟩ c hc' hp;obtain ⟨k,rfl⟩:=Int.eq_ofNat_of_zero_le (Int.le_of_lt r0);rw [Int.toNat_natCast] at hb;have hk : k < 2 ^ next.length:=by omega
  rw [lw hk hc'] at hp ⊢;have hne : stM L next.length next hid k c ≠ 0:=fun e=>by rw [e] at hp; exact absurd hp (by decide)
  have hh : hidB hid c = false:=by
   cases e : hidB hid c with
   | false=>rfl
   | true=>exact (hne (by rw [stM,if_pos e])).elim
  rw [cd,if_neg hne,Int.toNat_natCast];have hl:=abq (L:=L) (n:=next.length) (next:=next) (hid:=hid) (x:=k) (c:=c);refine ⟨by omega,by omega,HSet.step (S:=bitP k) (T:=bitP (stM L next.length next hid k c)) ⟨w,hw,hb⟩ hc' hh fun j=>?_⟩;rw [nq hs hk hc' hh];have hcl : HCl L next hid (bitP k):=fun i c' t hi hc2 hh2 ht=>(hb t).2 (HRun.closed i c' t ((hb i).1 hi) hc2 hh2 ht)
  have e1 : ∀ i,mc next (HRun L next hid (bitP k) []) c i ↔ mc next (bitP k) c i:=fun i=>
   ⟨fun ⟨a,h1,h2⟩=>⟨a,hcl.nil.1 h1,h2⟩,fun ⟨a,h1,h2⟩=>⟨a,HRun.self h1,h2⟩⟩
  exact ⟨fun h=>h.mono fun i hi=>(e1 i).1 hi,fun h=>h.mono fun i hi=>(e1 i).2 hi⟩
 ·intro z hz;rw [FS.num] at hz
  split at hz
  ·rename_i h0;simp only [FS.none,List.nil_append,List.mem_singleton] at hz;subst hz;have hne : fz L next hid sx ≠ 0:=fun e=>by rw [e] at h0; exact absurd h0.1 (by decide)
   rw [cd,if_neg hne,Int.toNat_natCast];exact ⟨by omega,by omega,[],Word.nil _,ig hs⟩
  ·simp [FS.none] at hz
theorem qh (hs : Shape (L : Int) sx next fin) (hF : d7 (cd 0 (fz L next hid sx)) (kx L next.length next hid) L = F) : Found (cd 0 (fz L next hid sx)) (kx L next.length next hid) L F:=by
 have hlt : fz L next hid sx < 2 ^ next.length:=lu _ _;have hc:=ul (nb:=0) hlt;rw [← hF];exact io (mr (fin:=fin)) hc.1 (by rw [il]; exact hc.2)
theorem aja (hs : Shape (L : Int) sx next fin) (hF : d7 (cd 0 (fz L next hid sx)) (kx L next.length next hid) L = F) (hm : F.rows.length ≤ 4000) :
  ¬ zm L next hid sx ∧ Shape (L : Int) (if F.rows.length = 0 then -1 else 0) (F.rows.map (bj F.place (kx L next.length next hid) L)) (bt F (qj L next.length next fin hid)) ∧
    ∀ w,Word L w → (accM (F.rows.map (bj F.place (kx L next.length next hid) L)) (bt F (qj L next.length next fin hid)) (if F.rows.length = 0 then -1 else 0) w = true ↔ HAcc L next fin hid (fun i=>(i : Int) = sx) w):=by
 have hFo:=qh hs hF;have hsh:=ads (L:=(L : Int)) (mr (L:=L) (n:=next.length) (next:=next) (fin:=fin) (hid:=hid)) (by rw [Int.toNat_natCast]; exact hFo);rw [Int.toNat_natCast] at hsh
 by_cases h0 : sx < 0
 ·have hn:=hFo.none ((s5 hs).2 h0);refine ⟨ach h0,hsh.1,fun w hw=>?_⟩;have e : (if F.rows.length = 0 then (-1 : Int) else 0) = -1:=by rw [hn]; rfl
  rw [e,di _ _ _ (by decide)];exact ⟨fun h=>(by cases h),fun h=>(yq h0 h).elim⟩
 ·have hx : 0 ≤ cd 0 (fz L next hid sx):=Int.not_lt.1 fun h=>h0 ((s5 hs).1 h);obtain ⟨h1,-⟩:=hFo.first hx;obtain ⟨h2,h3⟩:=List.getElem?_eq_some_iff.1 h1;have hS:=adq mr (by rw [il]; exact af8 hs) hFo
  have hD : ∀ j,HRun L next hid (bitP (F.rows.getD 0 0).toNat) [] j ↔ HRun L next hid (fun i=>(i : Int) = sx) [] j:=fun j=>by
   have e : (F.rows.getD 0 0).toNat = fz L next hid sx:=by
    rw [List.getD_eq_getElem?_getD,h1,Option.getD_some];unfold cd at hx ⊢
    split at hx
    ·omega
    ·rw [if_neg (by assumption),Int.toNat_natCast]
   rw [e];exact ⟨fun h=>HCl.least HRun.closed (fun i hi=>(ig hs i).1 hi) h,fun h=>HRun.self ((ig hs j).2 h)⟩
  refine ⟨hS.few h2 hD hm,hsh.1,fun w hw=>?_⟩;rw [if_neg (by omega)];exact hS.acc0 h2 hD hw
theorem agj (hs : Shape (L : Int) sx next fin) (hF : d7 (cd 0 (fz L next hid sx)) (kx L next.length next hid) L = F) (hm : 4000 < F.rows.length) : zm L next hid sx:=by
 have hFo:=qh hs hF;have hw:=aaz hs hF;refine aay (D:=fun a=>bitP (F.rows.getD a 0).toNat) hm (fun a ha=>?_) (fun a b ha hb he=>?_)
 ·obtain ⟨k,k1,k2,k3,k4⟩:=pp hFo ha;obtain ⟨r0,r1,w,hww,hb⟩:=hw _ (List.getElem_mem ha);rw [k3];rw [k2] at r0 hb;exact ⟨⟨w,hww,hb⟩,pf.1 (by omega)⟩
 ·obtain ⟨k,k1,k2,k3,k4⟩:=pp hFo ha;obtain ⟨k',k1',k2',k3',k4'⟩:=pp hFo hb;rw [il] at k1 k1';rw [k3,k3',Int.toNat_natCast,Int.toNat_natCast] at he
  have : k = k':=ww fun j=>by
   constructor
   ·exact fun h=>(kb he (tj k1 h)).1 h
   ·exact fun h=>(kb he (tj k1' h)).2 h
  subst this;omega
end
end
section
open Go
theorem abn (n : Int) : IntKind.u64.wrap n = n % 18446744073709551616:=by simp [IntKind.wrap,IntKind.bits,IntKind.signed]
theorem abo {n : Nat} (h : n < 18446744073709551616) : IntKind.u64.wrap (n : Int) = (n : Int):=by
 have h1 : (n : Int) % 18446744073709551616 = n:=by omega
 simp [IntKind.wrap,IntKind.bits,IntKind.signed,h1]
theorem wt {x : Nat} (hx : x < 18446744073709551616) : (BitVec.ofInt 64 (x : Int)).toNat = x:=by
 rw [BitVec.toNat_ofInt];omega
theorem af1 {x y : Nat} (hx : x < 18446744073709551616) (hy : y < 18446744073709551616) : IntKind.u64.wrap (((BitVec.ofInt IntKind.u64.bits (x : Int) ||| BitVec.ofInt IntKind.u64.bits (y : Int)).toNat : Nat) : Int) = ((x ||| y : Nat) : Int):=by
 have e : (BitVec.ofInt IntKind.u64.bits (x : Int) ||| BitVec.ofInt IntKind.u64.bits (y : Int)).toNat = x ||| y:=by
  show (BitVec.ofInt 64 (x : Int) ||| BitVec.ofInt 64 (y : Int)).toNat = _;rw [BitVec.toNat_or,wt hx,wt hy]
 rw [e];exact abo (Nat.or_lt_two_pow (n:=64) hx hy)
theorem abe {x y : Nat} (hx : x < 18446744073709551616) (hy : y < 18446744073709551616) : IntKind.u64.wrap (((BitVec.ofInt IntKind.u64.bits (x : Int) &&& BitVec.ofInt IntKind.u64.bits (y : Int)).toNat : Nat) : Int) = ((x &&& y : Nat) : Int):=by
 have e : (BitVec.ofInt IntKind.u64.bits (x : Int) &&& BitVec.ofInt IntKind.u64.bits (y : Int)).toNat = x &&& y:=by
  show (BitVec.ofInt 64 (x : Int) &&& BitVec.ofInt 64 (y : Int)).toNat = _;rw [BitVec.toNat_and,wt hx,wt hy]
 rw [e];exact abo (Nat.and_lt_two_pow (n:=64) x hy)
theorem shl_u64 {j : Nat} (hj : j < 64) : IntKind.u64.wrap ((1 : Int) * 2 ^ (min j IntKind.u64.bits)) = ((2 ^ j : Nat) : Int):=by
 have h1 : min j IntKind.u64.bits = j:=Nat.min_eq_left (Nat.le_of_lt hj);rw [h1,Int.one_mul];have e : ((2 : Int) ^ j) = ((2 ^ j : Nat) : Int):=by simp
 rw [e];exact abo (Nat.pow_lt_pow_right (a:=2) (by omega) hj)
theorem shr_u64 {x j : Nat} (hj : j < 64) : ((x : Int)).fdiv (2 ^ (min j IntKind.u64.bits)) = ((x / 2 ^ j : Nat) : Int):=by
 have h1 : min j IntKind.u64.bits = j:=Nat.min_eq_left (Nat.le_of_lt hj);rw [h1,show ((2 : Int) ^ j) = ((2 ^ j : Nat) : Int) by simp,Int.fdiv_eq_ediv_of_nonneg _ (Int.natCast_nonneg _)];rfl
theorem sub_u64 {x : Nat} (h0 : 0 < x) (hx : x < 18446744073709551616) : IntKind.u64.wrap ((x : Int) - 1) = ((x - 1 : Nat) : Int):=by
 rw [show (x : Int) - 1 = ((x - 1 : Nat) : Int) by omega];exact abo (by omega)
theorem neg_u64 {x : Nat} (h0 : 0 < x) (hx : x < 18446744073709551616) : IntKind.u64.wrap (0 - (x : Int)) = ((18446744073709551616 - x : Nat) : Int):=by
 rw [abn];omega
theorem mul_u64 (x y : Nat) : IntKind.u64.wrap ((x : Int) * (y : Int)) = ((x * y % 18446744073709551616 : Nat) : Int):=by
 rw [abn,← Int.natCast_mul]
 generalize x * y = z
 omega
theorem quo64 {j : Nat} (hj : j < 64) : IntKind.i64.wrap ((j : Int).tdiv 64) = ((0 : Nat) : Int):=by
 have : (j : Int).tdiv 64 = 0:=by rw [Int.tdiv_eq_ediv_of_nonneg (Int.natCast_nonneg j)]; omega
 rw [this]; rfl
theorem rem64 {j : Nat} (hj : j < 64) : (j : Int).tmod 64 = ((j : Nat) : Int):=by
 rw [Int.tmod_eq_emod_of_nonneg (Int.natCast_nonneg j)]; omega
def lowb : Nat → Nat → Nat
 | 0,_=>0
 | f + 1,x=>if x % 2 = 1 then 0 else lowb f (x / 2) + 1
def idxB (j : Nat) : Nat:=2 ^ j * 285870213051353865 % 18446744073709551616 / 288230376151711744
def pt (w : World) : Prop:=∀ j,j < 14 → w.cell? ⟨0,(idxB j : Nat),none⟩ = some (.int .u8 (j : Int))
def chkB (x : Nat) : Bool:=x == 0 || (Nat.blt (lowb 14 x) 14 && (x.testBit (lowb 14 x) && (x &&& (18446744073709551616 - x) == 2 ^ lowb 14 x && (x &&& (x - 1)) == x ^^^ 2 ^ lowb 14 x)))
def all2 (p : Nat → Bool) : Nat → Nat → Bool
 | 0,k=>p k
 | d + 1,k=>all2 p d (2 * k) && all2 p d (2 * k + 1)
theorem tu {p : Nat → Bool} : ∀ (d k : Nat),all2 p d k = true → ∀ x,x / 2 ^ d = k → p x = true
 | 0,k,h,x,hx=>by rw [Nat.pow_zero,Nat.div_one] at hx; rw [hx]; exact h
 | d + 1,k,h,x,hx=>by
   rw [all2,Bool.and_eq_true] at h;have e : x / 2 ^ d / 2 = k:=by rw [Nat.div_div_eq_div_mul,← Nat.pow_succ]; exact hx
   rcases Nat.mod_two_eq_zero_or_one (x / 2 ^ d) with h1 | h1
   ·exact tu d _ h.1 x (by omega)
   ·exact tu d _ h.2 x (by omega)
theorem chk_all : all2 chkB 14 0 = true:=by kernel_rfl
theorem chk {x : Nat} (hx : x < 16384) (h0 : 0 < x) : lowb 14 x < 14 ∧ bitP x (lowb 14 x) ∧ (x &&& (18446744073709551616 - x)) = 2 ^ lowb 14 x ∧ (x &&& (x - 1)) = x ^^^ 2 ^ lowb 14 x:=by
 have h:=tu 14 0 chk_all x (Nat.div_eq_of_lt hx);simp only [chkB,Bool.or_eq_true,Bool.and_eq_true,beq_iff_eq] at h
 rcases h with h | ⟨h1,h2,h3,h4⟩
 ·omega
 ·exact ⟨Nat.le_of_ble_eq_true h1,h2,h3,h4⟩
theorem acp {x : Nat} (hx : x < 16384) (h0 : 0 < x) (j : Nat) : bitP (x &&& (x - 1)) j ↔ bitP x j ∧ j ≠ lowb 14 x:=by
 obtain ⟨h1,h2,h3,h4⟩:=chk hx h0;rw [h4];unfold bitP at h2 ⊢;rw [Nat.testBit_xor,Nat.testBit_two_pow]
 by_cases e : lowb 14 x = j
 ·subst e;simp [h2]
 ·have : ¬ j = lowb 14 x:=fun h=>e h.symm;simp [e,this]
theorem take_lt {x : Nat} (h0 : 0 < x) : (x &&& (x - 1)) < x:=Nat.lt_of_le_of_lt Nat.and_le_right (by omega)
theorem aho (x y j : Nat) : bitP (x ||| y) j ↔ bitP x j ∨ bitP y j:=by
 unfold bitP;rw [Nat.testBit_or,Bool.or_eq_true]
theorem ahn (i j : Nat) : bitP (2 ^ i) j ↔ i = j:=by
 unfold bitP;rw [Nat.testBit_two_pow,decide_eq_true_eq]
theorem bit_has (x j : Nat) : decide ((((x / 2 ^ j) &&& 1 : Nat) : Int) = 1) = x.testBit j:=by
 rw [Nat.testBit,Nat.shiftRight_eq_div_pow,Nat.and_comm]
 rcases Nat.mod_two_eq_zero_or_one (x / 2 ^ j) with h | h <;> simp [Nat.one_and_eq_mod_two,h]
end
section
open Go Sym
def aj7 (f : Nat) : Prop:=∀ (L s : Int) (vn ve vh : Value) (next : List (List Int)) (fin hid : List Bool) (w : World),Ma w L s next fin vn ve → Sl w vh hid je → next.length ≤ 14 →
 Calls Tryz.prog f #[.agg #[Vi L,Vi s,vn,ve],vh] w fun e w'=>∃ (L' s' r : Int) (vn' ve' : Value) (n' : List (List Int)) (f' : List Bool),e = .returned (.tuple #[.agg #[Vi L',Vi s',vn',ve'],Vi r]) ∧ Ma w' L' s' n' f' vn' ve' ∧ RowKit.Below w.heap.size w w' ∧ oz L s next fin hid L' s' n' f' r
def acv (f : Nat) : Prop:=∀ (L s : Int) (vn ve vh : Value) (next : List (List Int)) (fin hid : List Bool) (w : World),Ma w L s next fin vn ve → Sl w vh hid je → next.length ≤ 14 → pt w →
 Calls Tryz.prog f #[.agg #[Vi L,Vi s,vn,ve],vh] w fun e w'=>∃ (L' s' r : Int) (vn' ve' : Value) (n' : List (List Int)) (f' : List Bool),e = .returned (.tuple #[.agg #[Vi L',Vi s',vn',ve'],Vi r]) ∧ Ma w' L' s' n' f' vn' ve' ∧ RowKit.Below w.heap.size w w' ∧ oz L s next fin hid L' s' n' f' r
theorem pt.keep {w w' : World} (h : pt w) (hb : RowKit.Below w.heap.size w w') : pt w':=fun j hj=>Go.Proofs.YtndldmojkpjgoaaGreatDoor.keep hb (h j hj)
theorem en_Hide : bk Tryz.prog 6 = true:=by kernel_rfl
theorem ajp : bk Tryz.prog 7 = true:=by kernel_rfl
theorem abf {L s : Int} {next : List (List Int)} {fin : List Bool} (hv : de L s next fin = 0) {word : List Int} (h : fq L s next fin word = true) : ∃ v : List Nat,word = v.map Int.ofNat ∧ Word L.toNat v ∧ accM next fin s v = true:=by
 have e1 : decide (de L s next fin ≠ 0) = false:=by simp [hv]
 simp only [fq,e1,aaw,Bool.and_eq_true] at h;refine ⟨word.map Int.toNat,?_,ai6 (db hv).1.L0 h.1,h.2⟩;rw [List.map_map];refine ((List.map_congr_left fun x hx=>?_).trans (List.map_id word)).symm
 have:=List.all_eq_true.1 h.1 x hx
 simp only [Bool.and_eq_true,decide_eq_true_eq] at this;exact Int.toNat_of_nonneg this.1
theorem oz.ok {L s : Int} {next : List (List Int)} {fin hid : List Bool} {L' s' : Int} {n' : List (List Int)} {f' : List Bool} (h : oz L s next fin hid L' s' n' f' 0) (h3 : n'.length ≤ 4000) : de L s next fin = 0 ∧ (hid.length : Int) = L ∧ L' = L ∧ de L s' n' f' = 0:=by
 rcases h with ⟨_,h1,_⟩ | ⟨h0,h1,sx,nx,fx,_,_,hr⟩
 ·cases h1
 rcases hr with ⟨_,h2,_⟩ | ⟨_,_,rfl,hc,_⟩
 ·cases h2
 exact ⟨h0,h1,rfl,nk hc.shape (db h0).2.1 (by omega)⟩
theorem oz.cap {L s : Int} {next : List (List Int)} {fin hid : List Bool} {L' s' r : Int} {n' : List (List Int)} {f' : List Bool} (h : oz L s next fin hid L' s' n' f' r) : n'.length ≤ 4000:=by
 rcases h with ⟨_,_,_,_,h1,_⟩ | ⟨_,_,sx,nx,fx,hcx,_,h1⟩
 ·rw [h1]; exact Nat.zero_le _
 rcases h1 with ⟨_,_,_,_,h2,_⟩ | ⟨hnf,_,rfl,hc,hacc⟩
 ·rw [h2]; exact Nat.zero_le _
 refine Nat.le_of_not_lt fun hm=>hnf ?_;have hpos : 0 < n'.length:=by omega
 have hs0:=hc.s0 hpos;subst hs0;have hr:=pz hc.shape n' 1 0 n'.length rfl (hc.num hpos) (fun j hj=>⟨[],Word.nil _,show (0 : Int) = (j : Int) by omega⟩)
 have key : ∀ j : Nat,∃ u : List Nat,j < n'.length → Word L'.toNat u ∧ runM n' 0 u = (j : Int):=fun j=>by
  by_cases hj : j < n'.length
  ·obtain ⟨u,h1,h2⟩:=hr j hj;exact ⟨u,fun _=>⟨h1,h2⟩⟩
  ·exact ⟨[],fun h=>(hj h).elim⟩
 obtain ⟨u,hu⟩:=Classical.skolem.1 key
 have hbd : ∀ w j,Word L'.toNat w → HRun L'.toNat nx hid (fun i=>(i : Int) = sx) w j → j < nx.length:=by
  rintro w j _ ⟨i,v,hi,h2,_,h4⟩
  have:=j9 hcx.shape v i h2 (by omega) (by rw [hi]; exact hcx.shape.s2)
  omega
 have hst : ∀ a,a < n'.length → ∀ w,Word L'.toNat w → (accM n' f' a w = true ↔ ∃ j,HRun L'.toNat nx hid (HRun L'.toNat nx hid (fun i=>(i : Int) = sx) (u a)) w j ∧ fx.getD j false = true):=fun a ha w hw=>by
  obtain ⟨h1,h2⟩:=hu a ha;have e:=hacc (u a ++ w) (h1.append hw);rw [abg,h2] at e;rw [e];exact ⟨fun ⟨j,x,y⟩=>⟨j,oa.1 x,y⟩,fun ⟨j,x,y⟩=>⟨j,oa.2 x,y⟩⟩
 refine aay (D:=fun a=>HRun L'.toNat nx hid (fun i=>(i : Int) = sx) (u a)) hm (fun a ha=>⟨⟨u a,(hu a ha).1,fun _=>Iff.rfl⟩,?_⟩) (fun a b ha hb he=>hc.dist a b ha hb fun w hw=>Bool.eq_iff_iff.2 ?_)
 ·obtain ⟨w,hw,h2⟩:=hc.live a ha;obtain ⟨j,⟨i,_,hi,_⟩,_⟩:=(hst a ha w hw).1 h2;exact ⟨i,hi⟩
 ·have hsame : ∀ i,HRun L'.toNat nx hid (fun i=>(i : Int) = sx) (u a) i ↔ HRun L'.toNat nx hid (fun i=>(i : Int) = sx) (u b) i:=fun i=>
   ⟨fun h=>(kb he (hbd _ i (hu a ha).1 h)).1 h,fun h=>(kb he (hbd _ i (hu b hb).1 h)).2 h⟩
  rw [hst a ha w hw,hst b hb w hw];exact ⟨fun ⟨j,x,y⟩=>⟨j,x.mono fun i h=>(hsame i).1 h,y⟩,fun ⟨j,x,y⟩=>⟨j,x.mono fun i h=>(hsame i).2 h,y⟩⟩
theorem oz.none {L s : Int} {next : List (List Int)} {fin hid : List Bool} {L' s' r : Int} {n' : List (List Int)} {f' : List Bool} (h : oz L s next fin hid L' s' n' f' r) (hr : r ≠ 0) : n' = []:=by
 rcases h with ⟨_,_,_,_,h1,_⟩ | ⟨_,_,sx,nx,fx,_,_,h1⟩
 ·exact h1
 rcases h1 with ⟨_,_,_,_,h2,_⟩ | ⟨_,h2,_⟩
 ·exact h2
 ·exact (hr h2).elim
theorem afv {w : World} {u : Value} {v : List Nat} (h : Sl w u (v.map Int.ofNat) PInt) {k : Nat} (hk : k < v.length) : ∃ b o c,u = .slice (some ⟨b,o,none⟩) v.length c ∧ w.cell? ⟨b,o + k,none⟩ = some (Vi (v[k] : Nat)):=by
 obtain ⟨a,b,o,c,rfl,h1,-,-,h4⟩:=h;rw [List.length_map] at h1 ⊢;obtain rfl:=h1 (by omega);obtain ⟨x,hx,hp⟩:=h4 k (by simpa using hk);rw [hp.1,List.getElem_map] at hx;exact ⟨b,o,c,rfl,hx⟩
theorem abi {hid : List Bool} {v : List Nat} {k : Nat} (hk : k < v.length) : visW hid (v.take (k + 1)) = visW hid (v.take k) ++ (if hidB hid v[k] = true then [] else [v[k]]):=by
 rw [List.take_succ_eq_append_getElem hk,g9]
 congr 1
 cases e : hidB hid v[k] with
 | true=>rw [o6 e]; rfl
 | false=>rw [o5 e]; rfl
theorem vis_len {hid : List Bool} {v : List Nat} {k : Nat} (hk : k < v.length) : (visW hid (v.take k)).length + 1 ≤ v.length:=by
 have h1 : (visW hid (v.take k)).length ≤ (v.take k).length:=List.length_filter_le ..;simp at h1;omega
set_option maxHeartbeats 4000000 in
theorem xw (C : AwakeC) (HR : aj7 6) (HA : acv 7) (L s : Int) (vn ve vh vw : Value) (next : List (List Int)) (fin hid : List Bool) (words : List (List Int)) (w : World)
  (hTab : pt w) (hi : MaIn w L s next fin vn ve) (hh : Sl w vh hid je) (hok : Ok vh) (hhl : hid.length ≤ 140737488355328) (hw0 : Sl w vw words PRow) (hwb : ∀ r ∈ words,r.length * 8 ≤ 140737488355328) :
  Calls Tryz.prog 3 #[.agg #[Vi L,Vi s,vn,ve],vh,vw] w fun e w'=>e = .returned (.bool true) ∧ RowKit.Below w.heap.size w w':=by
 refine Sym.c8 (args:=[.agg #[Vi L,Vi s,vn,ve],vh,vw]) Tryz.func3 rfl rfl rfl (fun a0 hS0=>?_);obtain ⟨M,hM⟩ : ∃ M,M = w.heap.size:=⟨_,rfl⟩;refine wp_seq (ai [(1,vh),(2,vw),(3,Vp M)] (· = w.alloc (.cells #[Vi L,Vi s,vn,ve] 25)) af hS0 ?_ (fun a wc hS hw=>?_))
 ·subst hM;refine zB rfl ?_
  repeat refine zX rfl ?_
  exact aj ⟨⟨rfl,rfl,rfl,trivial⟩,rfl⟩
 have hB:=ao w (.cells #[Vi L,Vi s,vn,ve] 25);rw [← hw] at hB;have hx : MBx wc M L s next fin vn ve:=⟨by rw [hw,hM]; exact OwnB.new w [Vi L,Vi s,vn,ve] 25,hi.ma.keep hB⟩;clear hw hS0 hM;replace hh:=hh.keep hB (fun _ _ h=>h);replace hw0:=hw0.keep hB (fun _ _ h=>PRow.keep hB h);obtain ⟨b22,hb22⟩ : ∃ b,(!rp L next fin || decide ((next.length : Int) > 14)) = b:=⟨_,rfl⟩;refine wp_seq (wp_seq (ai [(1,vh),(2,vw),(3,Vp M),(22,.bool b22)] (fun w'=>RowKit.Below wc.heap.size wc w') af hS ?_ (fun a w1 hS hw=>?_)))
 ·refine zA ([Vi L,Vi s,vn,ve]) rfl rfl (hx.cells) ?_;refine zF rfl (agy) (ae0 L s vn ve next fin _ hx.m) ?_;rintro e w1 ⟨rfl,h1⟩;refine ⟨_,rfl,?_⟩
  cases e1 : !rp L next fin
  case true=>
   rw [e1,Bool.true_or] at hb22; subst hb22;refine zP rfl ?_;rw [e1]
   repeat refine zX rfl ?_
   exact aj ⟨⟨rfl,rfl,rfl,rfl,trivial⟩,h1⟩
  rw [e1,Bool.false_or] at hb22;obtain ⟨an,cn,rfl⟩:=hx.m.n.len;refine zP rfl ?_;rw [e1]
  repeat refine zX rfl ?_
  refine zL rfl ((hx.keep h1).o.cell (i:=2) rfl) ?_
  repeat refine zX rfl ?_
  refine zC rfl (hb22) ?_
  repeat refine zX rfl ?_
  exact aj ⟨⟨rfl,rfl,rfl,rfl,trivial⟩,h1⟩
 replace hB:=ak hB hw;replace hx:=hx.keep hw;replace hh:=hh.keep hw (fun _ _ h=>h);replace hw0:=hw0.keep hw (fun _ _ h=>PRow.keep hw h);clear hw;refine cond hS rfl (fun hT=>?_) (fun hF=>wp_skip ?_)
 ·refine wp_seq (ai [(6,.bool true)] (fun w'=>RowKit.Below w1.heap.size w1 w') af hS ?_ (fun a w2 hS hw=>?_))
  ·refine zF rfl (ack) (zf C _) ?_;rintro e w2 ⟨rfl,h2⟩;refine ⟨_,rfl,?_⟩
   repeat refine zX rfl ?_
   exact aj ⟨⟨rfl,trivial⟩,h2⟩
  refine wp_ret ?_
  repeat first|refine a8 ?_|refine am ?_
  exact ret1 hS rfl rfl ⟨rfl,ak hB hw⟩
 rw [hF] at hb22;simp only [Bool.or_eq_false_iff,Bool.not_eq_false'] at hb22;obtain ⟨g1,g2⟩:=hb22;have hn14 : next.length ≤ 14:=by have:=of_decide_eq_false g2; omega
 refine wp_seq (bg (α:=Nat × (Int × Int × Int) × (Value × Value) × List (List Int) × List Bool) (fun x=>[(1,vh),(2,vw),(3,Vp M),(7,Vp x.1),(8,Vi x.2.1.2.2)]) (fun x w'=>RowKit.Below w1.heap.size w1 w' ∧ MBx w' x.1 x.2.1.1 x.2.1.2.1 x.2.2.2.1 x.2.2.2.2 x.2.2.1.1 x.2.2.1.2 ∧ oz L s next fin hid x.2.1.1 x.2.1.2.1 x.2.2.2.1 x.2.2.2.2 x.2.1.2.2) af hS ?_ (fun x a w2 hS h6=>?_))
 ·refine zA ([Vi L,Vi s,vn,ve]) rfl rfl (hx.cells) ?_
  repeat refine zX rfl ?_
  refine zF rfl (en_Hide) (HR L s vn ve vh next fin hid _ hx.m hh hn14) ?_;rintro e w6 ⟨L',s',r,vn',ve',n',f',rfl,hMa,hk,hJ⟩;refine ⟨_,rfl,?_⟩;obtain ⟨an,cn,hvn⟩:=hMa.n.len;obtain ⟨ae,ce,hve⟩:=hMa.e.len;have hp:=ab5 hMa;subst hvn hve
  repeat refine zX rfl ?_
  refine zB rfl ?_;refine cj rfl rfl (anI rfl (anI rfl (anI (b0 (OwnB.new w6 [Vi 0,Vi 0,.slice none 0 0,.slice none 0 0] 25)) ?_)))
  repeat refine zX rfl ?_
  exact aj ⟨(w6.heap.size,(L',s',r),(.slice an n'.length cn,.slice ae f'.length ce),n',f'),⟨rfl,rfl,rfl,rfl,rfl,trivial⟩,ak hk hp.1,hp.2,hJ⟩
 obtain ⟨b7,⟨L7,s7,r7⟩,⟨vn7,ve7⟩,n7,f7⟩:=x;obtain ⟨hw,h7,hj7⟩:=h6;dsimp only at hS h7 hj7;replace hB:=ak hB hw;replace hx:=hx.keep hw;replace hh:=hh.keep hw (fun _ _ h=>h);replace hw0:=hw0.keep hw (fun _ _ h=>PRow.keep hw h);clear hw;refine wp_seq (bg (α:=Nat × (Int × Int × Int) × (Value × Value) × List (List Int) × List Bool) (fun x=>[(1,vh),(2,vw),(3,Vp M),(7,Vp b7),(8,Vi r7),(9,Vp x.1),(10,Vi x.2.1.2.2)]) (fun x w'=>RowKit.Below w2.heap.size w2 w' ∧ MBx w' x.1 x.2.1.1 x.2.1.2.1 x.2.2.2.1 x.2.2.2.2 x.2.2.1.1 x.2.2.1.2 ∧ oz L s next fin hid x.2.1.1 x.2.1.2.1 x.2.2.2.1 x.2.2.2.2 x.2.1.2.2) af hS ?_ (fun x a w3 hS h6=>?_))
 ·refine zA ([Vi L,Vi s,vn,ve]) rfl rfl (hx.cells) ?_;refine zF rfl (en_Copy) (hi.copy hB) ?_;rintro e w4 ⟨vn4,ve4,rfl,hm4,h4⟩;refine ⟨_,rfl,?_⟩;have hy:=ao w4 (.cells #[] 4);have hl:=jq w4 w4.heap.size 4 (Nat.le_refl _);have hh4:=hh.keep h4 (fun _ _ h=>h);obtain ⟨ah,ch,rfl⟩:=hh.len
  repeat refine zX rfl ?_
  refine b8 rfl rfl rfl ?_;refine exI [] (exI #[] (anI (anI rfl rfl) (anI (by decide) (anI (by simp [Instr.fill,madeCells]) ?_))));have ask:=tq (e:=⟨4,.bool,1,1,.bool false⟩) hl (uo (f:=Value.bool) (hh4.keep hy (fun _ _ h=>h)) hok (fun _ _ h=>h)) rfl (fun _=>rfl) (by omega) (by simp only [Nat.mul_one]; omega) hy.size
  repeat refine zX rfl ?_
  refine b8 rfl rfl rfl ?_;refine exI _ (exI _ (exI _ (exI _ (exI _ (anI (ask) (anI (fun _ h=>h.symm) (anI (by decide) ?_)))))));rintro v' w5 hown hgr hnil hat;rw [Nat.zero_add,List.nil_append] at hown;have hK:=a6 hy hgr (fun q hq=>by simp only [Value.ownBlock,Option.some.injEq] at hq; omega);have hsl:=(jn (P:=je) (l:=hid) hown rfl (fun i hi=>⟨_,by simp [hi],rfl⟩)).1
  repeat refine zX rfl ?_
  refine zF rfl (ajp) (HA L s vn4 ve4 v' next fin hid _ ((hm4.ma hi.ma.L hi.ma.s).keep hK) hsl hn14 (((hTab.keep hB).keep h4).keep hK)) ?_;rintro e w6 ⟨L',s',r,vn',ve',n',f',rfl,hMa,hk,hJ⟩;refine ⟨_,rfl,?_⟩;obtain ⟨an,cn,hvn⟩:=hMa.n.len;obtain ⟨ae,ce,hve⟩:=hMa.e.len;have hp:=ab5 hMa;subst hvn hve
  repeat refine zX rfl ?_
  refine zB rfl ?_;refine cj rfl rfl (anI rfl (anI rfl (anI (b0 (OwnB.new w6 [Vi 0,Vi 0,.slice none 0 0,.slice none 0 0] 25)) ?_)))
  repeat refine zX rfl ?_
  exact aj ⟨(w6.heap.size,(L',s',r),(.slice an n'.length cn,.slice ae f'.length ce),n',f'),⟨rfl,rfl,rfl,rfl,rfl,rfl,rfl,trivial⟩,ak h4 (ak hK (ak hk hp.1)),hp.2,hJ⟩
 obtain ⟨b9,⟨L9,s9,r9⟩,⟨vn9,ve9⟩,n9,f9⟩:=x;obtain ⟨hw,h9,hj9⟩:=h6;dsimp only at hS h9 hj9;obtain ⟨rfl,rfl,rfl,rfl,rfl⟩:=hj7.one hj9;replace hB:=ak hB hw;replace hx:=hx.keep hw;replace hh:=hh.keep hw (fun _ _ h=>h);replace hw0:=hw0.keep hw (fun _ _ h=>PRow.keep hw h);replace h7:=h7.keep hw;clear hw hj9;obtain ⟨ah,ch,rfl⟩:=hh.len;refine wp_seq (wp_seq (ai [(1,.slice ah hid.length ch),(2,vw),(3,Vp M),(8,Vi r7),(9,Vp b9),(61,.bool false)] (fun w'=>RowKit.Below w3.heap.size w3 w') af hS ?_ (fun a w4 hS hw=>?_)))
 ·by_cases hr : r7 = 0
  ·repeat refine zX rfl ?_
   refine zC rfl (decide_eq_false (fun h=>h rfl)) ?_
   repeat refine zX rfl ?_
   refine zC rfl (decide_eq_false (fun h=>h hr)) ?_
   repeat refine zX rfl ?_
   refine zC rfl (decide_eq_true hr) ?_
   repeat refine zX rfl ?_
   refine zA ([Vi L7,Vi s7,vn9,ve9]) rfl rfl (h9.cells) ?_;refine zA ([Vi L7,Vi s7,vn7,ve7]) rfl rfl (h7.cells) ?_;refine zF rfl (en_Same) (aik L7 s7 L7 s7 vn9 ve9 vn7 ve7 n7 n7 f7 f7 _ h9.m h7.m) ?_;rintro e w4 ⟨rfl,k1⟩;refine ⟨_,rfl,?_⟩;rw [show aaf L7 s7 n7 f7 L7 s7 n7 f7 = true from decide_eq_true ⟨rfl,rfl,rfl,rfl⟩]
   repeat refine zX rfl ?_
   exact aj ⟨⟨rfl,rfl,rfl,rfl,rfl,rfl,trivial⟩,k1⟩
  ·obtain rfl:=hj7.none hr;obtain ⟨a9,c9,rfl⟩:=h9.m.n.len
   repeat refine zX rfl ?_
   refine zC rfl (decide_eq_false (fun h=>h rfl)) ?_
   repeat refine zX rfl ?_
   refine zC rfl (decide_eq_true hr) ?_
   repeat refine zX rfl ?_
   refine zL rfl (h9.o.cell (i:=2) rfl) ?_
   repeat refine zX rfl ?_
   refine zC rfl (decide_eq_false (by simp)) ?_
   repeat refine zX rfl ?_
   refine zC rfl (decide_eq_false hr) ?_
   repeat refine zX rfl ?_
   exact aj ⟨⟨rfl,rfl,rfl,rfl,rfl,rfl,trivial⟩,RowKit.Below.refl _ _⟩
 replace hB:=ak hB hw;replace hx:=hx.keep hw;replace hh:=hh.keep hw (fun _ _ h=>h);replace hw0:=hw0.keep hw (fun _ _ h=>PRow.keep hw h);replace h9:=h9.keep hw;clear hw h7;refine cond hS rfl (fun hT=>by cases hT) (fun _=>wp_skip ?_);obtain ⟨gw,b,o,cw,rfl,aw,kw1,kw2,-⟩:=id hw0;refine wp_seq (wp_seq (ai [(1,.slice ah hid.length ch),(2,.slice gw words.length cw),(3,Vp M),(8,Vi r7),(9,Vp b9),(11,Vi (0 : Nat))] (· = w4) af hS ?_ (fun a w5 hS hw=>?_)))
 ·repeat refine zX rfl ?_
  exact aj ⟨⟨rfl,rfl,rfl,rfl,rfl,rfl,trivial⟩,rfl⟩
 subst hw;refine wp_block (cz hS (fun g E wr=>∃ i : Nat,i ≤ words.length ∧ g = words.length - i ∧ E = [(1,.slice ah hid.length ch),(2,.slice gw words.length cw),(3,Vp M),(8,Vi r7),(9,Vp b9),(11,Vi i)] ∧ RowKit.Below w5.heap.size w5 wr) words.length ⟨0,Nat.zero_le _,rfl,rfl,RowKit.Below.refl _ _⟩ ?_);rintro g E wr aa ⟨i,hi',rfl,rfl,hK⟩ hS;refine wp_seq (wp_seq (ai [(1,.slice ah hid.length ch),(2,.slice gw words.length cw),(3,Vp M),(8,Vi r7),(9,Vp b9),(11,Vi i),(69,.bool (decide ((i : Int) < words.length) && decide (r7 = 0)))] (· = wr) af hS ?_ (fun a w6 hS hw=>?_)))
 ·repeat refine zX rfl ?_
  cases e1 : decide ((i : Int) < words.length)
  ·refine zC rfl (e1) ?_
   repeat refine zX rfl ?_
   exact aj ⟨⟨rfl,rfl,rfl,rfl,rfl,rfl,rfl,trivial⟩,rfl⟩
  ·refine zC rfl (e1) ?_
   repeat refine zX rfl ?_
   refine zC rfl (rfl) ?_
   repeat refine zX rfl ?_
   exact aj ⟨⟨rfl,rfl,rfl,rfl,rfl,rfl,rfl,trivial⟩,rfl⟩
 subst hw;refine cond hS rfl (fun hT=>wp_skip ?_) (fun hF=>?_)
 case refine_2=>
  refine wp_exit ?_
  repeat first|refine bf ?_|refine ba ?_|refine az rfl ?_
  refine wp_seq (ai [(6,.bool true)] (fun w'=>RowKit.Below w6.heap.size w6 w') af hS ?_ (fun a w7 hS hw=>?_))
  ·refine zF rfl (ack) (zf C _) ?_;rintro e w7 ⟨rfl,h2⟩;refine ⟨_,rfl,?_⟩
   repeat refine zX rfl ?_
   exact aj ⟨⟨rfl,trivial⟩,h2⟩
  refine wp_ret ?_
  repeat first|refine a8 ?_|refine am ?_
  exact ret1 hS rfl rfl ⟨rfl,ak hB (ak hK hw)⟩
 rw [Bool.and_eq_true] at hT;have hlt : i < words.length:=by have:=of_decide_eq_true hT.1; omega
 have hr0 : r7 = 0:=of_decide_eq_true hT.2;subst hr0;obtain rfl:=aw (by omega);have hx':=hx.keep hK;have h9':=h9.keep hK;have hh':=hh.keep hK (fun _ _ h=>h)
 obtain ⟨u,hu,hpu⟩ : ∃ u,w6.cell? ⟨b,o + i,none⟩ = some u ∧ PRow w6 u words[i]:=by
  obtain ⟨a2,b2,o2,c2,e2',m2,-,-,hel2⟩:=hw0.keep hK (fun _ _ h=>PRow.keep hK h);have h3:=m2 (by omega);subst h3;simp only [Value.slice.injEq,Option.some.injEq,Addr.mk.injEq,and_true,true_and] at e2';obtain ⟨⟨rfl,rfl⟩,-⟩:=e2';exact hel2 i hlt
 refine wp_seq (wp_block ?_);refine wp_seq (wp_seq (b6 [(1,.slice ah hid.length ch),(2,.slice (some ⟨b,o,none⟩) words.length cw),(3,Vp M),(8,Vi 0),(9,Vp b9),(11,Vi i),(78,.bool (!fq L s next fin words[i]))] af dc (by kernel_rfl) hS ?_ (fun a w7 hS hw=>?_)))
 ·refine qA ([Vi L,Vi s,vn,ve]) rfl rfl (hx'.cells) ?_
  repeat refine qX rfl ?_
  refine qI rfl (rfl) (hlt) ?_;refine qL rfl (hu) ?_;refine qF (.bool (fq L s next fin words[i])) rfl (gd) (fun w1 h1=>C.accepts L s vn ve u next fin words[i] w1 (hx'.m.keep h1) (hpu.keep h1).1) ?_
  repeat refine qX rfl ?_
  exact fa ⟨rfl,rfl,rfl,rfl,rfl,rfl,rfl,trivial⟩
 refine cond hS rfl (fun hT2=>?_) (fun hF2=>wp_skip ?_)
 ·skip
  refine wp_exit ?_
  repeat first|refine bf ?_|refine ba ?_|refine az rfl ?_
  refine b4 ?_;refine ai [(1,.slice ah hid.length ch),(2,.slice (some ⟨b,o,none⟩) words.length cw),(3,Vp M),(8,Vi 0),(9,Vp b9),(11,Vi (i + 1 : Nat))] (· = w7) af hS ?_ (fun a w8 hS hw8=>?_)
  ·repeat refine zX rfl ?_
   refine zN rfl (ck (by omega)) ?_
   repeat refine zX rfl ?_
   exact aj ⟨⟨rfl,rfl,rfl,rfl,rfl,rfl,trivial⟩,rfl⟩
  subst hw8;exact ⟨words.length - (i + 1),_,by omega,⟨i + 1,hlt,rfl,rfl,ak hK hw⟩,hS⟩
 have hn7 : n7.length ≤ 4000:=hj7.cap;obtain ⟨hv,hhL,hL7,hv7⟩:=hj7.ok hn7;obtain ⟨v,hwv,hWv,hacc⟩:=abf hv (by simpa using hF2);obtain ⟨hWl,hal⟩:=hj7.left hWv hacc;have hvb:=hwb _ (List.getElem_mem hlt);rw [hwv,List.length_map] at hvb;replace hK:=ak hK hw;replace h9':=h9'.keep hw;replace hh':=hh'.keep hw (fun _ _ h=>h);replace hu:=keep hw hu;replace hpu:=hpu.keep hw;rw [hwv] at hpu;clear hw hx';refine wp_seq (bg (α:=Value) (fun vl=>[(1,.slice ah hid.length ch),(2,.slice (some ⟨b,o,none⟩) words.length cw),(3,Vp M),(8,Vi 0),(9,Vp b9),(11,Vi i),(12,vl)]) (fun vl w'=>Hold w7.heap.size w7 w' [oN vl []]) af hS ?_ (fun vl a w8 hS h=>?_))
 ·refine b8 rfl rfl rfl ?_;refine exI [] (exI #[] (anI (anI rfl rfl) (anI (by decide) (anI (by simp [Instr.fill,madeCells]) ?_))))
  repeat refine zX rfl ?_
  exact aj ⟨_,⟨rfl,rfl,rfl,rfl,rfl,rfl,rfl,trivial⟩,(Hold.start w7).lit (e:=3) (s:=1) (n:=0) #[] rfl (by decide)⟩
 refine wp_seq (wp_seq (ai [(1,.slice ah hid.length ch),(2,.slice (some ⟨b,o,none⟩) words.length cw),(3,Vp M),(8,Vi 0),(9,Vp b9),(11,Vi i),(12,vl),(13,Vi (0 : Nat))] (· = w8) af hS ?_ (fun a w9 hS hw=>?_)))
 ·repeat refine zX rfl ?_
  exact aj ⟨⟨rfl,rfl,rfl,rfl,rfl,rfl,rfl,rfl,trivial⟩,rfl⟩
 subst hw;refine wp_block (cz hS (fun g E wr=>∃ (k : Nat) (vl : Value),k ≤ v.length ∧ g = v.length - k ∧ E = [(1,.slice ah hid.length ch),(2,.slice (some ⟨b,o,none⟩) words.length cw),(3,Vp M),(8,Vi 0),(9,Vp b9),(11,Vi i),(12,vl),(13,Vi k)] ∧ Hold w7.heap.size w7 wr [oN vl (visW hid (v.take k))]) v.length ⟨0,vl,Nat.zero_le _,rfl,rfl,h⟩ ?_);clear h hS;rintro g E wr ab ⟨k,vl,hk,rfl,rfl,h⟩ hS;have hu2:=keep h.b hu;have hpu2:=hpu.keep h.b;refine wp_seq (wp_seq (ai [(1,.slice ah hid.length ch),(2,.slice (some ⟨b,o,none⟩) words.length cw),(3,Vp M),(8,Vi 0),(9,Vp b9),(11,Vi i),(12,vl),(13,Vi k),(86,.bool (decide ((k : Int) < v.length)))] (· = wr) af hS ?_ (fun a w10 hS hw=>?_)))
 ·obtain ⟨au,cu,rfl⟩:=hpu2.1.len;rw [List.length_map] at hu2
  repeat refine zX rfl ?_
  refine zI rfl (rfl) (hlt) ?_;refine zL rfl (hu2) ?_
  repeat refine zX rfl ?_
  refine zC rfl (rfl) ?_;exact aj ⟨⟨rfl,rfl,rfl,rfl,rfl,rfl,rfl,rfl,rfl,trivial⟩,rfl⟩
 subst hw;refine cond hS rfl (fun hT3=>wp_skip ?_) (fun hF3=>?_)
 case refine_2=>
  refine wp_exit ?_
  repeat first|refine bf ?_|refine ba ?_|refine az rfl ?_
  have hge : k = v.length:=by have:=of_decide_eq_false hF3; omega
  rw [hge,List.take_length] at h
  have hsl : Sl w10 vl ((visW hid v).map Int.ofNat) PInt:=(jn (P:=PInt) (l:=(visW hid v).map Int.ofNat) (h.r.1 0 _ rfl) (by simp) (fun j hj=>by
   rw [List.length_map] at hj;refine ⟨_,ab4 _ hj,?_,?_⟩
   ·rw [List.getElem_map]; simp [gt,List.getD_eq_getElem?_getD,hj]
   ·rw [List.getElem_map]
    have:=hWl _ (List.getElem_mem hj)
    have hL:=hi.ma.L.2;unfold I64;simp only [Int.ofNat_eq_natCast]
    omega)).1
  have hac : fq L7 s7 n7 f7 ((visW hid v).map Int.ofNat) = true:=by
   rw [hL7,zj hv7 hWl,hal]
  refine wp_seq (ai [(1,.slice ah hid.length ch),(2,.slice (some ⟨b,o,none⟩) words.length cw),(3,Vp M),(8,Vi 0),(9,Vp b9),(11,Vi i),(113,.bool false)] (fun w'=>RowKit.Below w10.heap.size w10 w') af hS ?_ (fun a w11 hS hw=>?_))
  ·refine zA ([Vi L7,Vi s7,vn9,ve9]) rfl rfl ((h9'.keep h.b).cells) ?_
   repeat refine zX rfl ?_
   refine zF rfl (gd) (C.accepts L7 s7 vn9 ve9 vl n7 f7 _ _ (h9'.keep h.b).m hsl) ?_;rintro e w11 ⟨rfl,k1⟩;refine ⟨_,rfl,?_⟩;rw [hac]
   repeat refine zX rfl ?_
   exact aj ⟨⟨rfl,rfl,rfl,rfl,rfl,rfl,rfl,trivial⟩,k1⟩
  refine cond hS rfl (fun hT=>by cases hT) (fun _=>wp_skip ?_);refine ay ?_;refine b4 ?_;refine ai [(1,.slice ah hid.length ch),(2,.slice (some ⟨b,o,none⟩) words.length cw),(3,Vp M),(8,Vi 0),(9,Vp b9),(11,Vi (i + 1 : Nat))] (· = w11) af hS ?_ (fun a w12 hS hw8=>?_)
  ·repeat refine zX rfl ?_
   refine zN rfl (ck (by omega)) ?_
   repeat refine zX rfl ?_
   exact aj ⟨⟨rfl,rfl,rfl,rfl,rfl,rfl,trivial⟩,rfl⟩
  subst hw8;exact ⟨words.length - (i + 1),_,by omega,⟨i + 1,hlt,rfl,rfl,ak hK (ak h.b hw)⟩,hS⟩
 have hks : k < v.length:=by have:=of_decide_eq_true hT3; omega
 have hch : v[k] < hid.length:=by have:=hWv _ (List.getElem_mem hks); omega
 obtain ⟨bu,ou,cu,rfl,hcu⟩:=afv hpu2.1 hks;obtain ⟨bh,oh,ch',e3,hcc⟩:=nw (hh'.keep h.b (fun _ _ h=>h)) hch;simp only [Value.slice.injEq,true_and] at e3;obtain ⟨rfl,rfl⟩:=e3;have hhb : hidB hid v[k] = hid[v[k]]:=by simp [hidB,hch]
 have hvl:=vis_len (hid:=hid) hks;refine wp_seq (wp_block ?_);refine wp_seq (ai [(1,.slice (some ⟨bh,oh,none⟩) hid.length ch),(2,.slice (some ⟨b,o,none⟩) words.length cw),(3,Vp M),(8,Vi 0),(9,Vp b9),(11,Vi i),(12,vl),(13,Vi k),(99,.bool (!hid[v[k]]))] (· = w10) af hS ?_ (fun a w11 hS hw=>?_))
 ·repeat refine zX rfl ?_
  refine zI rfl (rfl) (hlt) ?_;refine zL rfl (hu2) ?_
  repeat refine zX rfl ?_
  refine zI rfl (rfl) (hks) ?_;refine zL rfl (hcu) ?_;refine zI rfl (rfl) (hch) ?_;refine zL rfl (hcc) ?_
  repeat refine zX rfl ?_
  exact aj ⟨⟨rfl,rfl,rfl,rfl,rfl,rfl,rfl,rfl,rfl,trivial⟩,rfl⟩
 subst hw;refine cut (F:=fun a' w'=>∃ vl' : Value,St Tryz.f3.ntmps a' [(1,.slice (some ⟨bh,oh,none⟩) hid.length ch),(2,.slice (some ⟨b,o,none⟩) words.length cw),(3,Vp M),(8,Vi 0),(9,Vp b9),(11,Vi i),(12,vl'),(13,Vi k)] ∧ Hold w7.heap.size w7 w' [oN vl' (visW hid (v.take (k + 1)))]) ?_ ?_
 ·refine cond hS rfl (fun hT4=>?_) (fun hF4=>?_)
  ·rw [abi hks,hhb,if_neg (by simpa using hT4)];refine bg (α:=Value) (fun vl'=>[(1,.slice (some ⟨bh,oh,none⟩) hid.length ch),(2,.slice (some ⟨b,o,none⟩) words.length cw),(3,Vp M),(8,Vi 0),(9,Vp b9),(11,Vi i),(12,vl'),(13,Vi k)]) (fun vl' w'=>Hold w7.heap.size w7 w' [oN vl' (visW hid (v.take k) ++ [v[k]])]) af hS ?_ (fun vl' a w12 hS h2=>⟨vl',hS,h2⟩);obtain ⟨gl,cl,rfl,hcl⟩:=h.r.any (i:=0) rfl
   repeat refine zX rfl ?_
   refine zI rfl (rfl) (hlt) ?_;refine zL rfl (hu2) ?_
   repeat refine zX rfl ?_
   refine zI rfl (rfl) (hks) ?_;refine zL rfl (hcu) ?_;refine b8 rfl rfl rfl ?_;refine exI [(0,Vi ((v[k] : Int)))] (exI #[Vi ((v[k] : Int))] (anI (anI rfl rfl) (anI (by decide) (anI (jv _ _ _) ?_))));have h1:=h.alloc (.cells #[Vi (v[k] : Nat)] 3)
   have ask : AppAsk (w11.alloc (.cells #[Vi (v[k] : Nat)] 3)) ⟨3,.int .i64,1,8,Vi 0⟩ (.slice gl (visW hid (v.take k)).length cl) (visW hid (v.take k)).length (nats (visW hid (v.take k))) (Vs w11.heap.size 1 1) 1 [Vi (v[k] : Nat)] w7.heap.size:=
    ⟨h1.r.1 0 _ rfl,.inr ⟨_,0,_,rfl,ax rfl,trivial⟩,rfl,(by simp [Value.oneCell']),(by omega),(by show ((visW hid (v.take k)).length + 1) * 8 ≤ _; omega),h1.s⟩
   refine b8 rfl rfl rfl ?_;refine exI _ (exI _ (exI _ (exI _ (exI _ (anI (ask) (anI (fun _ h=>h.symm) (anI (by decide) ?_)))))));rintro v' w12 hown hgr - hat;have h2:=h1.appN (i:=0) rfl hown hgr hat
   repeat refine zX rfl ?_
   exact aj ⟨v',⟨rfl,rfl,rfl,rfl,rfl,rfl,rfl,rfl,trivial⟩,h2⟩
  ·refine wp_skip ⟨vl,hS.sub ⟨rfl,rfl,rfl,rfl,rfl,rfl,rfl,rfl,trivial⟩,?_⟩;rw [abi hks,hhb,if_pos (by simpa using hF4),List.append_nil];exact h
 rintro a w12 ⟨vl',hS,h2⟩;refine ay ?_;refine b4 ?_;refine ai [(1,.slice (some ⟨bh,oh,none⟩) hid.length ch),(2,.slice (some ⟨b,o,none⟩) words.length cw),(3,Vp M),(8,Vi 0),(9,Vp b9),(11,Vi i),(12,vl'),(13,Vi (k + 1 : Nat))] (· = w12) af hS ?_ (fun a w13 hS hw8=>?_)
 ·repeat refine zX rfl ?_
  refine zN rfl (ck (by omega)) ?_
  repeat refine zX rfl ?_
  exact aj ⟨⟨rfl,rfl,rfl,rfl,rfl,rfl,rfl,rfl,trivial⟩,rfl⟩
 subst hw8;exact ⟨v.length - (k + 1),_,by omega,⟨k + 1,vl',hks,rfl,rfl,h2⟩,hS⟩
end
section
open Go Sym
abbrev Vu (x : Nat) : Value:=.int .u64 (x : Int)
theorem ag9 : bk Tryz.prog 59 = true:=by kernel_rfl
theorem ag8 : bk Tryz.prog 28 = true:=by kernel_rfl
theorem xk : bk Tryz.prog 25 = true:=by kernel_rfl
theorem vq : bk Tryz.prog 60 = true:=by kernel_rfl
theorem lt64 {x : Nat} (hx : x < 16384) : x < 18446744073709551616:=by omega
theorem afs {j : Nat} (hj : j < 14) : 2 ^ j < 16384:=Nat.pow_lt_pow_right (a:=2) (by omega) hj
theorem ait {x y : Nat} (hx : x < 16384) (hy : y < 16384) : x ||| y < 16384:=Nat.or_lt_two_pow (n:=14) hx hy
theorem acu {b o x j : Nat} (w : World) (hc : w.cell? ⟨b,o,none⟩ = some (Vu x)) (hf : w.frozen? ⟨b,o,none⟩ = false) (hx : x < 16384) (hj : j < 14) :
  Calls Tryz.prog 59 #[.pointer (some ⟨b,o,none⟩),Vi j] w fun e w'=>e = .returned (.tuple #[]) ∧ w' = w.drew.setCell ⟨b,o,none⟩ (Vu (x ||| 2 ^ j)):=by
 refine Sym.c8 (args:=[.pointer (some ⟨b,o,none⟩),Vi j]) Tryz.func59 rfl rfl rfl (fun a0 hS0=>?_);refine d5 12 [] (fun w'=>w' = w.drew.setCell ⟨b,o,none⟩ (Vu (x ||| 2 ^ j))) dc hS0 ?_ (fun a w8 hS hw=>ret0 hS rfl ⟨rfl,hw⟩);have hy : RowKit.Below w.drew.heap.size w.drew w.drew:=RowKit.Below.refl _ _;refine yT 0 af rfl (by kernel_rfl) hy rfl (rfl) ?_;refine yT 1 af rfl (by kernel_rfl) hy rfl (rfl) ?_;refine yT 2 af rfl (by kernel_rfl) hy rfl (anI (by decide) (exI _ (anI (quo64 (by omega)) rfl))) ?_;refine yT 3 af rfl (by kernel_rfl) hy rfl (rfl) ?_;refine yT 4 af rfl (by kernel_rfl) hy rfl (exI _ (anI (rfl) (anI ((by decide)) rfl))) ?_;refine yL 5 af rfl (by kernel_rfl) hy rfl rfl (hc) ?_;refine yT 6 af rfl (by kernel_rfl) hy rfl (rfl) ?_;refine yT 7 af rfl (by kernel_rfl) hy rfl (anI (by decide) (exI _ (anI (rem64 (by omega)) rfl))) ?_;refine yT 8 af rfl (by kernel_rfl) hy rfl (exI _ (anI (shl_u64 (by omega)) rfl)) ?_;refine yT 9 af rfl (by kernel_rfl) hy rfl (exI _ (anI (af1 (lt64 hx) (lt64 (afs hj))) rfl)) ?_;refine yT 10 af rfl (by kernel_rfl) hy rfl (rfl) ?_;refine yT 11 af rfl (by kernel_rfl) hy rfl (exI _ (anI (rfl) (anI ((by decide)) rfl))) ?_;refine bo 12 (by kernel_rfl) (ew 12 af rfl rfl rfl ?_);refine anI rfl (anI rfl (anI ⟨_,hc⟩ (anI hf (anI (.inl (by kernel_rfl)) ?_))));exact iq (by kernel_rfl) trivial rfl
theorem act {b o x j : Nat} (w : World) (hc : w.cell? ⟨b,o,none⟩ = some (Vu x)) (hx : x < 16384) (hj : j < 14) :
  Calls Tryz.prog 28 #[.pointer (some ⟨b,o,none⟩),Vi j] w fun e w'=>e = .returned (.bool (x.testBit j)) ∧ w' = w:=by
 refine Sym.c8 (args:=[.pointer (some ⟨b,o,none⟩),Vi j]) Tryz.func28 rfl rfl rfl (fun a0 hS0=>?_);refine wp_seq (ai [(0,.pointer (some ⟨b,o,none⟩)),(1,Vi j)] (· = w) af hS0 ?_ (fun a w1 hS hw=>?_))
 ·repeat refine zX rfl ?_
  exact aj ⟨⟨rfl,rfl,trivial⟩,rfl⟩
 subst hw;refine wp_seq (ai [(4,.bool (x.testBit j))] (· = w1) af hS ?_ (fun a w2 hS hw=>?_))
 ·have hd : x / 2 ^ j < 18446744073709551616:=Nat.lt_of_le_of_lt (Nat.div_le_self _ _) (lt64 hx)
  repeat refine zX rfl ?_
  refine zD rfl (by decide) (quo64 (by omega)) ?_
  repeat refine zX rfl ?_
  refine zI rfl (rfl) ((by decide)) ?_;refine zL rfl (hc) ?_
  repeat refine zX rfl ?_
  refine zD rfl (by decide) (rem64 (by omega)) ?_;refine zN rfl (shr_u64 (by omega)) ?_;refine zN rfl (abe (y:=1) hd (by decide)) ?_;refine zC rfl (bit_has x j) ?_
  repeat refine zX rfl ?_
  exact aj ⟨⟨rfl,trivial⟩,rfl⟩
 subst hw;refine wp_ret ?_
 repeat first|refine a8 ?_|refine am ?_
 exact ret1 hS rfl rfl ⟨rfl,rfl⟩
def ckN (x : Nat) : Nat:=if x = 0 then 0 else 1
def ckC (x : Nat) : List Value:=if x = 0 then [] else [Vi 0,Vu x]
abbrev oC (v : Value) (x : Nat) : Ow:=⟨v,110,2,ckN x,ckC x⟩
def CkAt (w : World) (v : Value) (y : Nat) : Prop:=(y = 0 ∧ ∃ a c,v = .slice a 0 c) ∨ (y ≠ 0 ∧ ∃ b o c,v = .slice (some ⟨b,o,none⟩) 1 c ∧ ca w.cell? b o [Vi 0,Vu y])
theorem CkAt.keep {w w' : World} {v : Value} {y : Nat} (h : CkAt w v y) (hb : RowKit.Below w.heap.size w w') : CkAt w' v y:=by
 rcases h with h | ⟨h0,b,o,c,e,h1,h2,_⟩
 ·exact .inl h
 ·exact .inr ⟨h0,b,o,c,e,Go.Proofs.YtndldmojkpjgoaaGreatDoor.keep hb h1,Go.Proofs.YtndldmojkpjgoaaGreatDoor.keep hb h2,trivial⟩
theorem CkAt.len {w : World} {v : Value} {y : Nat} (h : CkAt w v y) : ∃ a c,v = .slice a (ckN y) c:=by
 rcases h with ⟨rfl,a,c,e⟩ | ⟨h0,b,o,c,e,_⟩
 ·exact ⟨a,c,e⟩
 ·exact ⟨_,c,by rw [ckN,if_neg h0]; exact e⟩
section
variable {base : Nat} {w0 w : World} {l : List Ow}
theorem oC_at {i : Nat} {v : Value} {x : Nat} (h : Hold base w0 w l) (hi : l[i]? = some (oC v x)) : CkAt w v x:=by
 by_cases h0 : x = 0
 ·obtain ⟨g,c,e,-⟩:=h.r.any hi;subst h0;exact .inl ⟨rfl,g,c,e⟩
 ·obtain ⟨g,c,e,-⟩:=h.r.nilOr hi (by rw [ckN,if_neg h0]; decide);have hn : ckN x = 1:=if_neg h0;have hc : ckC x = [Vi 0,Vu x]:=if_neg h0;rw [hn] at e;subst e;have h1:=h.r.cellV (g:=g) (n:=1) (c:=c) hi (j:=0) (u:=Vi 0) (by rw [hc]; rfl);have h2:=h.r.cellV (g:=g) (n:=1) (c:=c) hi (j:=1) (u:=Vu x) (by rw [hc]; rfl);exact .inr ⟨h0,g,0,c,rfl,h1,h2,trivial⟩
theorem ahu {i g n n' c e s j x y : Nat} {xs : List Value} {v : Value} (h : Hold base w0 w l) (hi : l[i]? = some ⟨Vs g n c,e,s,n',xs⟩) (hj : xs[j]? = some (Vu x)) (hx : x < 16384) (hy : y < 16384) (hvv : ∀ (u : World) (xs' : List Value),Hold base w0 u (l.set i ⟨Vs g n c,e,s,n',xs'⟩) → CkAt u v y) :
  Calls Tryz.prog 25 #[.pointer (some ⟨g,0 + j,none⟩),v] w fun e' w'=>e' = .returned (.tuple #[]) ∧ Hold base w0 w' (l.set i ⟨Vs g n c,e,s,n',xs.set j (Vu (x ||| y))⟩):=by
 refine Sym.c8 (args:=[.pointer (some ⟨g,0 + j,none⟩),v]) Tryz.func25 rfl rfl rfl (fun a0 hS0=>?_);have hil : i < l.length:=(List.getElem?_eq_some_iff.1 hi).1
 have e0 : l.set i ⟨Vs g n c,e,s,n',xs⟩ = l:=by
  obtain ⟨h1,h2⟩:=List.getElem?_eq_some_iff.1 hi;rw [← h2,List.set_getElem_self]
 obtain ⟨av,cv,rfl⟩:=(hvv w xs (h.cast e0.symm)).len;refine wp_seq (ai [(0,.pointer (some ⟨g,0 + j,none⟩)),(6,.slice av (ckN y) cv),(7,Vi (ckN y)),(8,Vi (0 : Nat))] (· = w) af hS0 ?_ (fun a w1 hS hw=>?_))
 ·repeat refine zX rfl ?_
  exact aj ⟨⟨rfl,rfl,rfl,rfl,trivial⟩,rfl⟩
 subst hw
 have h0 : Hold base w0 w1 (l.set i ⟨Vs g n c,e,s,n',if (0 : Nat) = 0 then xs else xs.set j (Vu (x ||| y))⟩):=by
  rw [if_pos rfl];exact h.cast e0.symm
 refine wp_block (cz hS (fun γ E wr=>∃ k : Nat,k ≤ ckN y ∧ γ = ckN y - k ∧ E = [(0,.pointer (some ⟨g,0 + j,none⟩)),(6,.slice av (ckN y) cv),(7,Vi (ckN y)),(8,Vi k)] ∧ Hold base w0 wr (l.set i ⟨Vs g n c,e,s,n',(if k = 0 then xs else xs.set j (Vu (x ||| y)))⟩)) (ckN y) ⟨0,Nat.zero_le _,rfl,rfl,h0⟩ ?_);clear hS h h0;rintro γ E wr a1 ⟨k,hk,rfl,rfl,h⟩ hS;refine wp_seq (ai [(0,.pointer (some ⟨g,0 + j,none⟩)),(6,.slice av (ckN y) cv),(7,Vi (ckN y)),(8,Vi k),(9,.bool (decide (k < ckN y)))] (· = wr) af hS ?_ (fun a w3 hS hw=>?_))
 ·refine zC rfl (co _ _) ?_
  repeat refine zX rfl ?_
  exact aj ⟨⟨rfl,rfl,rfl,rfl,rfl,trivial⟩,rfl⟩
 subst hw;refine wp_seq (cond hS rfl (fun hT=>wp_skip ?_) (fun hF=>?_))
 rotate_left
 ·have hge : k = ckN y:=by have:=of_decide_eq_false hF; omega
  refine wp_exit ?_
  repeat first|refine bf ?_|refine ba ?_|refine az rfl ?_
  refine ret0 hS rfl ⟨rfl,?_⟩
  by_cases hy0 : y = 0
  ·have e1 : k = 0:=by rw [hge,ckN,if_pos hy0]
   rw [if_pos e1] at h
   have e2 : xs.set j (Vu (x ||| y)) = xs:=by
    rw [hy0,Nat.or_zero];obtain ⟨hjl,hje⟩:=List.getElem?_eq_some_iff.1 hj;rw [← hje,List.set_getElem_self]
   rw [e2]; exact h
  ·have e1 : ¬ k = 0:=by rw [hge,ckN,if_neg hy0]; decide
   rw [if_neg e1] at h;exact h
 have hlt : k < ckN y:=of_decide_eq_true hT;have hy0 : y ≠ 0:=fun e=>by rw [ckN,if_pos e] at hlt; omega
 have hn1 : ckN y = 1:=if_neg hy0;obtain rfl : k = 0:=by omega
 rw [if_pos rfl] at h;have hsi : ∀ (o : Ow),(l.set i o)[i]? = some o:=fun o=>List.getElem?_set_self hil;refine wp_seq (wp_block ?_);refine wp_seq (bg (α:=Nat) (fun cb=>[(0,.pointer (some ⟨g,0 + j,none⟩)),(6,.slice av (ckN y) cv),(7,Vi (ckN y)),(8,Vi (0 : Nat)),(5,Vp cb)]) (fun cb w'=>Hold base w0 w' (oX 110 cb 2 [Vi 0,Vu y] :: l.set i ⟨Vs g n c,e,s,n',xs⟩)) af hS ?_ (fun cb a w4 hS h=>?_))
 ·rcases hvv w3 xs h with ⟨h0,_⟩ | ⟨_,b2,o2,c2,he,hc2⟩
  ·exact (hy0 h0).elim
  simp only [Value.slice.injEq] at he;obtain ⟨rfl,-,-⟩:=he;have h2:=(h.var (T:=110) (k:=2) [Vi 0,Vu 0] [Vi 0,Vu y] rfl rfl).1
  repeat refine zX rfl ?_
  refine zI rfl (rfl) (hlt) ?_;refine zA ([Vi 0,Vu y]) rfl rfl (hc2) ?_;refine zB rfl ?_;refine cj rfl rfl (anI rfl (anI rfl (anI (fj (OwnB.new w3 [Vi 0,Vu 0] 110)) ?_)));exact aj ⟨_,⟨rfl,rfl,rfl,rfl,rfl,trivial⟩,h2⟩
 refine d5 11 [(0,.pointer (some ⟨g,0 + j,none⟩)),(6,.slice av (ckN y) cv),(7,Vi (ckN y)),(8,Vi (0 : Nat))] (fun w'=>Hold base w0 w' (l.set i ⟨Vs g n c,e,s,n',xs.set j (Vu (x ||| y))⟩)) dc hS ?_ (fun a w5 hS h=>?_)
 ·have hyy : RowKit.Below w4.drew.heap.size w4.drew w4.drew:=RowKit.Below.refl _ _;have hD:=h.drew;have hst:=hD.store (i:=i + 1) (by rw [List.getElem?_cons_succ]; exact hsi _) j (Vu (x ||| y));have hcx:=hD.r.cellV (i:=i + 1) (by rw [List.getElem?_cons_succ]; exact hsi _) hj;have hfx:=hD.r.freeI (i:=i + 1) (by rw [List.getElem?_cons_succ]; exact hsi _) j;refine yT 0 af rfl (by kernel_rfl) hyy rfl (rfl) ?_;refine yT 1 af rfl (by kernel_rfl) hyy rfl (rfl) ?_;refine yL 2 af rfl (by kernel_rfl) hyy rfl rfl (hD.r.xcell (i:=0) rfl (j:=0) rfl) ?_;refine yT 3 af rfl (by kernel_rfl) hyy rfl (rfl) ?_;refine yT 4 af rfl (by kernel_rfl) hyy rfl (exI _ (anI (rfl) (anI ((by decide)) rfl))) ?_;refine yL 5 af rfl (by kernel_rfl) hyy rfl rfl (hcx) ?_;refine yT 6 af rfl (by kernel_rfl) hyy rfl (rfl) ?_;refine yL 7 af rfl (by kernel_rfl) hyy rfl rfl (hD.r.xcell (i:=0) rfl (j:=1) rfl) ?_;refine yT 8 af rfl (by kernel_rfl) hyy rfl (exI _ (anI (af1 (lt64 hx) (lt64 hy)) rfl)) ?_;refine yT 9 af rfl (by kernel_rfl) hyy rfl (rfl) ?_;refine yT 10 af rfl (by kernel_rfl) hyy rfl (exI _ (anI (rfl) (anI ((by decide)) rfl))) ?_;refine bo 11 (by kernel_rfl) (ew 11 af rfl rfl rfl ?_);refine anI rfl (anI rfl (anI ⟨_,hcx⟩ (anI hfx (anI (.inl (by kernel_rfl)) ?_))));refine iq (by kernel_rfl) ⟨rfl,rfl,rfl,rfl,trivial⟩ ?_;rw [List.set_cons_succ,List.set_set] at hst;exact hst.tail
 refine ay ?_;refine ai [(0,.pointer (some ⟨g,0 + j,none⟩)),(6,.slice av (ckN y) cv),(7,Vi (ckN y)),(8,Vi (1 : Nat))] (· = w5) af hS ?_ (fun a w6 hS hw=>?_)
 ·repeat refine zX rfl ?_
  refine zN rfl (bm 0 1 (by omega)) ?_
  repeat refine zX rfl ?_
  exact aj ⟨⟨rfl,rfl,rfl,rfl,trivial⟩,rfl⟩
 subst hw;exact ⟨ckN y - 1,_,by omega,⟨1,by omega,rfl,rfl,by rw [if_neg (by decide)]; exact h⟩,hS⟩
def setC (x : Nat) : List Value:=Vu x :: List.replicate 62 (Vu 0)
theorem jx (x : Nat) : (setC x).length = 63:=rfl
theorem kp {x k : Nat} (hk : k < 63) : (setC x)[k]? = some (Vu (if k = 0 then x else 0)):=by
 cases k with
 | zero=>rfl
 | succ k=>rw [setC,List.getElem?_cons_succ,List.getElem?_replicate,if_pos (by omega),if_neg (by omega)]
theorem t6 {g o x : Nat} (h : Hold base w0 w l) (hw : ∀ u,Hold base w0 u l → ∀ k,k < 63 → u.cell? ⟨g,o + k,none⟩ = some (Vu (if k = 0 then x else 0))) :
  Calls Tryz.prog 60 #[.pointer (some ⟨g,o,none⟩)] w fun e' w'=>∃ v : Value,e' = .returned v ∧ Hold base w0 w' (oC v x :: l):=by
 refine Sym.c8 (args:=[.pointer (some ⟨g,o,none⟩)]) Tryz.func60 rfl rfl rfl (fun a0 hS0=>?_);refine wp_seq (ai [(0,.pointer (some ⟨g,o,none⟩))] (· = w) af hS0 ?_ (fun a w1 hS hw'=>?_))
 ·repeat refine zX rfl ?_
  exact aj ⟨⟨rfl,trivial⟩,rfl⟩
 subst hw';refine wp_seq (ai [(0,.pointer (some ⟨g,o,none⟩)),(3,.slice none 0 0)] (· = w1) af hS ?_ (fun a w2 hS hw'=>?_))
 ·repeat refine zX rfl ?_
  exact aj ⟨⟨rfl,rfl,trivial⟩,rfl⟩
 subst hw';refine wp_seq (wp_seq (ai [(3,.slice none 0 0),(6,.pointer (some ⟨g,o,none⟩)),(7,Vi (0 : Nat))] (· = w2) af hS ?_ (fun a w3 hS hw'=>?_)))
 ·repeat refine zX rfl ?_
  exact aj ⟨⟨rfl,rfl,rfl,trivial⟩,rfl⟩
 subst hw';have h0 : Hold base w0 w3 (oC (.slice none 0 0) (if (0 : Nat) = 0 then 0 else x) :: l):=h.nil 110 2;refine wp_block (cz hS (fun γ E wr=>∃ (k : Nat) (v : Value),k ≤ 63 ∧ γ = 63 - k ∧ E = [(3,v),(6,.pointer (some ⟨g,o,none⟩)),(7,Vi k)] ∧ Hold base w0 wr (oC v (if k = 0 then 0 else x) :: l)) 63 ⟨0,_,by omega,rfl,rfl,h0⟩ ?_);clear hS h h0;rintro γ E wr a1 ⟨k,v,hk,rfl,rfl,h⟩ hS;refine wp_seq (ai [(3,v),(6,.pointer (some ⟨g,o,none⟩)),(7,Vi k),(8,.bool (decide (k < 63)))] (· = wr) af hS ?_ (fun a w4 hS hw'=>?_))
 ·refine zC rfl (co _ 63) ?_
  repeat refine zX rfl ?_
  exact aj ⟨⟨rfl,rfl,rfl,rfl,trivial⟩,rfl⟩
 subst hw';refine wp_seq (cond hS rfl (fun hT=>wp_skip ?_) (fun hF=>?_))
 rotate_left
 ·have hge : ¬ k = 0:=by have:=of_decide_eq_false hF; omega
  rw [if_neg hge] at h;refine wp_exit ?_
  repeat first|refine bf ?_|refine ba ?_|refine az rfl ?_
  refine wp_seq (ai [(2,v)] (· = w4) af hS ?_ (fun a w5 hS hw'=>?_))
  ·repeat refine zX rfl ?_
   exact aj ⟨⟨rfl,trivial⟩,rfl⟩
  subst hw';refine wp_ret ?_
  repeat first|refine a8 ?_|refine am ?_
  exact ret1 hS rfl rfl ⟨v,rfl,h⟩
 have hlt : k < 63:=of_decide_eq_true hT;obtain ⟨u,hu⟩ : ∃ u,(if k = 0 then x else 0) = u:=⟨_,rfl⟩;have hcell:=hw w4 h.tail k hlt;rw [hu] at hcell;refine wp_seq (wp_block ?_);refine wp_seq (b6 [(3,v),(6,.pointer (some ⟨g,o,none⟩)),(7,Vi k),(4,Vi k),(5,Vu u)] af dc (by kernel_rfl) hS ?_ (fun a w5 hS hw'=>?_))
 ·repeat refine qX rfl ?_
  refine qI rfl (rfl) (hlt) ?_;refine qL rfl (hcell) ?_
  repeat refine qX rfl ?_
  exact fa ⟨rfl,rfl,rfl,rfl,rfl,trivial⟩
 replace h:=h.below hw';clear hw' hcell;refine wp_seq (ai [(3,v),(6,.pointer (some ⟨g,o,none⟩)),(7,Vi k),(4,Vi k),(5,Vu u),(14,.bool (decide (u ≠ 0)))] (· = w5) af hS ?_ (fun a w6 hS hw'=>?_))
 ·repeat refine zX rfl ?_
  refine zC rfl (af5 u 0) ?_;exact aj ⟨⟨rfl,rfl,rfl,rfl,rfl,rfl,trivial⟩,rfl⟩
 subst hw';refine cut (F:=fun a' w'=>∃ v' : Value,St Tryz.f60.ntmps a' [(3,v'),(6,.pointer (some ⟨g,o,none⟩)),(7,Vi k)] ∧ Hold base w0 w' (oC v' x :: l)) ?_ ?_
 ·refine cond hS rfl (fun hT2=>?_) (fun hF2=>wp_skip ?_)
  ·have hu0 : u ≠ 0:=of_decide_eq_true hT2;have hk0 : k = 0:=Classical.byContradiction fun hn=>by rw [if_neg hn] at hu; exact hu0 hu.symm
   subst hk0;rw [if_pos rfl] at hu h;subst hu;refine bg (α:=Value) (fun v'=>[(3,v'),(6,.pointer (some ⟨g,o,none⟩)),(7,Vi (0 : Nat))]) (fun v' w'=>Hold base w0 w' (oC v' x :: l)) af hS ?_ (fun v' a w7 hS h=>⟨v',hS,h⟩);obtain ⟨gs,cs,rfl,-⟩:=h.r.any (i:=0) rfl;have h3:=h.alloc (.cells #[Vi 0,Vu x] 110)
   repeat refine zX rfl ?_
   refine b8 rfl rfl rfl ?_;refine exI [(0,.agg #[Vi 0,Vu x])] (exI #[Vi 0,Vu x] (anI (anI rfl rfl) (anI (by decide) (anI (fill2 _ _ _ rfl) ?_))))
   have ask : AppAsk (w6.alloc (.cells #[Vi 0,Vu x] 110)) ⟨110,.struct [(0,3),(1,43)],2,16,.agg #[Vi 0,Vu 0]⟩ (.slice gs 0 cs) 0 [] (Vs w6.heap.size 1 1) 1 [Vi 0,Vu x] base:=
    ⟨h3.r.1 0 _ rfl,.inr ⟨_,0,_,rfl,ax rfl,ax rfl,trivial⟩,rfl,(by simp [Value.oneCell']),(by omega),(by show (0 + 1) * 16 ≤ _; omega),h3.s⟩
   refine b8 rfl rfl rfl ?_;refine exI _ (exI _ (exI _ (exI _ (exI _ (anI (ask) (anI (fun _ h=>h.symm) (anI (by decide) ?_)))))));rintro v' w7 hown hgr - hat;have h4:=h3.app (i:=0) rfl hown hgr hat;have e1 : (⟨v',110,2,0 + 1,[] ++ [Vi 0,Vu x]⟩ : Ow) = oC v' x:=by rw [oC,ckN,ckC,if_neg hu0,if_neg hu0]; rfl
   repeat refine zX rfl ?_
   refine aj ⟨v',⟨rfl,rfl,rfl,trivial⟩,?_⟩;rw [← e1];exact h4
  ·have hu0 : u = 0:=by have:=of_decide_eq_false hF2; omega
   refine ⟨v,hS.sub ⟨rfl,rfl,rfl,trivial⟩,?_⟩
   by_cases hk0 : k = 0
   ·subst hk0;rw [if_pos rfl] at hu h;rw [hu,hu0]; exact h
   ·rw [if_neg hk0] at h; exact h
 clear h hS;rintro a w7 ⟨v',hS,h⟩;refine ay ?_;refine ai [(3,v'),(6,.pointer (some ⟨g,o,none⟩)),(7,Vi (k + 1 : Nat))] (· = w7) af hS ?_ (fun a w8 hS hw'=>?_)
 ·repeat refine zX rfl ?_
  refine zN rfl (bm k 1 (by omega)) ?_
  repeat refine zX rfl ?_
  exact aj ⟨⟨rfl,rfl,rfl,trivial⟩,rfl⟩
 subst hw';exact ⟨63 - (k + 1),_,by omega,⟨k + 1,v',by omega,rfl,rfl,by rw [if_neg (by omega)]; exact h⟩,hS⟩
end
end
section
open Go Sym
def ai7 : Nat → Bool
 | 0=>true
 | n + 1=>Nat.blt (idxB n) 64 && ai7 n
theorem idx_ok : ai7 14 = true:=by kernel_rfl
theorem u5 : ∀ (n : Nat),ai7 n = true → ∀ j,j < n → idxB j < 64
 | 0,_,j,hj=>by omega
 | n + 1,h,j,hj=>by
   rw [ai7,Bool.and_eq_true] at h
   by_cases e : j = n
   ·subst e; exact Nat.le_of_ble_eq_true h.1
   ·exact u5 n h.2 j (by omega)
theorem idxB_lt {j : Nat} (hj : j < 14) : idxB j < 64:=u5 14 idx_ok j hj
theorem shr58 (z : Nat) : ((z : Int)).fdiv (2 ^ (min (58 : Int).toNat IntKind.u64.bits)) = ((z / 288230376151711744 : Nat) : Int):=by
 rw [Int.fdiv_eq_ediv_of_nonneg _ (Int.pow_nonneg (by decide)),show (2 : Int) ^ (min (58 : Int).toNat IntKind.u64.bits) = 288230376151711744 from rfl]
 omega
theorem to_i64 {j : Nat} (hj : j < 14) : IntKind.i64.wrap (j : Int) = (j : Int):=by
 simp [IntKind.wrap,IntKind.bits,IntKind.signed];omega
theorem aia {x : Nat} (h0 : 0 < x) (hx : x < 16384) : ∃ m1 m2 m3 z : Nat,IntKind.u64.wrap (0 - (x : Int)) = (m1 : Int) ∧
  IntKind.u64.wrap (((BitVec.ofInt IntKind.u64.bits (x : Int) &&& BitVec.ofInt IntKind.u64.bits (m1 : Int)).toNat : Nat) : Int) = (m2 : Int) ∧
  IntKind.u64.wrap ((m2 : Int) * 285870213051353865) = (m3 : Int) ∧ ((m3 : Int)).fdiv (2 ^ (min (58 : Int).toNat IntKind.u64.bits)) = (z : Int) ∧ z = idxB (lowb 14 x):=by
 obtain ⟨hj,-,hl,-⟩:=chk hx h0;refine ⟨_,2 ^ lowb 14 x,_,_,neg_u64 h0 (lt64 hx),?_,mul_u64 _ 285870213051353865,shr58 _,rfl⟩;rw [abe (lt64 hx) (by omega),hl]
theorem tz_any {x : Nat} (w : World) (ht : pt w) (h0 : 0 < x) (hx : x < 16384) :
  Calls Tryz.prog 61 #[Vu x] w fun e w'=>e = .returned (Vi (lowb 14 x : Nat)) ∧ w' = w:=by
 obtain ⟨hj,-⟩:=chk hx h0;obtain ⟨m1,m2,m3,z,e1,e2,e3,e4,e5⟩:=aia h0 hx;have hz : z < 64:=e5 ▸ idxB_lt hj;have hcz : w.cell? ⟨0,z,none⟩ = some (.int .u8 ((lowb 14 x : Nat) : Int)):=by rw [e5]; exact ht _ hj
 have hwr:=to_i64 hj;clear e5 hj
 revert hcz hwr
 generalize lowb 14 x = r
 intro hcz hwr;refine Sym.c8 (args:=[Vu x]) Tryz.func61 rfl rfl rfl (fun a0 hS0=>?_);refine wp_seq (ai [(0,Vu x)] (· = w) af hS0 ?_ (fun a w1 hS hw=>?_))
 ·repeat refine zX rfl ?_
  exact aj ⟨⟨rfl,trivial⟩,rfl⟩
 subst hw;refine wp_seq (wp_seq (ai [(0,Vu x),(4,.bool (decide (x = 0)))] (· = w1) af hS ?_ (fun a w2 hS hw=>?_)))
 ·repeat refine zX rfl ?_
  refine zC rfl (af6 x) ?_;exact aj ⟨⟨rfl,rfl,trivial⟩,rfl⟩
 subst hw;refine cond hS rfl (fun hT=>?_) (fun hF=>wp_skip ?_)
 ·have:=of_decide_eq_true hT
  omega
 refine wp_seq (ai [(2,Vi (r : Nat))] (· = w2) af hS ?_ (fun a w3 hS hw=>?_))
 ·have hc : w2.cell? ⟨0,0 + z,none⟩ = some (.int .u8 (r : Int)):=by rw [Nat.zero_add]; exact hcz
  repeat refine zX rfl ?_
  refine zN rfl (e1) ?_;refine zN rfl (e2) ?_;refine zN rfl (e3) ?_;refine b8 rfl rfl rfl ?_;refine anI (by decide) (exI _ (anI e4 ?_));refine zI rfl (rfl) (hz) ?_;refine zL rfl (hc) ?_;refine zN rfl (hwr) ?_
  repeat refine zX rfl ?_
  exact aj ⟨⟨rfl,trivial⟩,rfl⟩
 subst hw;refine wp_ret ?_
 repeat first|refine a8 ?_|refine am ?_
 exact ret1 hS rfl rfl ⟨rfl,rfl⟩
end
section
open Go Sym
abbrev WF (ro : Option Nat) : Fence:={ Fence.wide with round:=ro }
abbrev FR (l : Nat) : Fence:=Fence.wide.inRound l
def StD (ds : List Deferred) (N : Nat) (a : Act) (E : Env) : Prop:=a.defers = ds ∧ St N { tmps:=a.tmps,defers:=[] } E
section
variable {P : Program} {T : Tab} {N : Nat} {ds : List Deferred} {ro : Option Nat}
theorem StD.of {a : Act} {E : Env} (h : St N a E) : StD [] N a E:=⟨h.defers,⟨h.size,rfl,h.has⟩⟩
theorem StD.st {a : Act} {E : Env} (h : StD [] N a E) : St N a E:=⟨h.2.size,h.1,h.2.has⟩
theorem StD.mark {a : Act} {E : Env} (h : St N a E) (ds : List Deferred) : StD ds N { tmps:=a.tmps,defers:=ds } E:=⟨rfl,⟨h.size,rfl,h.has⟩⟩
theorem StD.sub {a : Act} {E E' : Env} (h : StD ds N a E) (hs : Sub E E') : StD ds N a E':=⟨h.1,h.2.sub hs⟩
theorem afq (a : Act) (d : Option Nat) (v : Value) : a.put d v = { tmps:=(({ tmps:=a.tmps,defers:=[] } : Act).put d v).tmps,defers:=a.defers }:=by cases d <;> rfl
theorem put_nil (t : Array Value) (d : Option Nat) (v : Value) : (({ tmps:=t,defers:=[] } : Act).put d v).defers = []:=by cases d <;> rfl
theorem StD.put {a : Act} {E : Env} (h : StD ds N a E) {d : Option Nat} (hd : k9 N d = true) (v : Value) : StD ds N (a.put d v) (upd E d v):=by
 refine ⟨?_,?_⟩
 ·rw [afq]; exact h.1
 ·rw [afq];have h2:=h.2.put hd v;exact ⟨h2.size,rfl,h2.has⟩
theorem qo (a : Act) : ({ tmps:=a.tmps,defers:=[] } : Act).eval = a.eval:=funext fun x=>by cases x <;> rfl
theorem x6 (hT : Tab.ok P T) {a : Act} {E : Env} {o : Oper} {w : World} {k : Value → World → Prop} {next : Act → World → Prop} {Q : Exit → Act → World → Prop} (h : StD ds N a E)
  (hp : ir P T E w o.op k) (hn : ∀ v w',k v w' → next (a.put o.dst v) w') : o.wpIn (WF ro) 0 P a w next Q:=by
 have h1 : o.wp P { tmps:=a.tmps,defers:=[] } w (fun a' w'=>∃ v,a' = ({ tmps:=a.tmps,defers:=[] } : Act).put o.dst v ∧ k v w') (fun _ _ _=>False):=kn hT h.2 hp (fun v w' hk=>⟨v,rfl,hk⟩);have hnd : ∀ c,o.op ≠ .defer c:=fun c hc=>by rw [hc] at hp; exact hp
 have go : ∀ {v : Value} {w' : World},(∃ v',({ tmps:=a.tmps,defers:=[] } : Act).put o.dst v = ({ tmps:=a.tmps,defers:=[] } : Act).put o.dst v' ∧ k v' w') → next (a.put o.dst v) w':=by
  rintro v w' ⟨v',e,hk⟩
  have:=hn v' w' hk
  rw [afq] at this ⊢;rw [e];exact this
 refine ⟨fun _ _=>trivial,?_⟩;rw [Oper.semAt_eq _ _ _ hnd];unfold Oper.wp at h1;rw [qo] at h1
 revert h1
 generalize (execOp a.eval o).run P w = r
 intro h1
 cases r with
 | ok x w'=>
   cases x with
   | value v=>exact go h1
   | skip=>exact go h1
   | defer d=>
     obtain ⟨v,e,hk⟩:=h1
     have:=congrArg Act.defers e
     rw [put_nil] at this
     revert this
     cases o.dst <;> (intro h; cases h)
   | enter f args=>
     refine ⟨fun h=>(by cases h),callsIn_wide.2 (Calls.mono h1 ?_)⟩;intro e w2 h2
     cases e with
     | returned v=>exact go h2
     | panicked c=>exact h2.elim
     | outgrown=>obtain ⟨_,_,h3⟩:=h2; exact h3.elim
   | row r args=>
     refine ⟨fun h=>(by cases h),fun c cs _=>?_⟩;obtain ⟨v,w2,h2,h3⟩:=h1 c cs;exact ⟨v,w2,go h2,stepsIn_wide.2 h3⟩
   | _=>exact h1.elim
 | halt s w'=>
   cases s with
   | panic v=>exact h1.elim
   | _=>exact h1.elim
theorem iw (hT : Tab.ok P T) {all : Array Oper} {K : Env → World → Prop} {Q : Exit → Act → World → Prop} {r : List Oper} (hQ : ∀ E w a,K E w → StD ds N a E → wpListIn (WF ro) 0 P all Q r a w) :
  ∀ (l : List Oper) (E : Env) (w : World) (a : Act),StD ds N a E → opsK P T N all.toList K l E w → wpListIn (WF ro) 0 P all Q (l ++ r) a w
 | [],E,w,a,h,hp=>hQ _ _ _ hp h
 | o :: l,E,w,a,h,hp=>by
   rw [kf] at hp
   split at hp
   ·exact hp.elim
   ·rename_i hd;rw [List.cons_append];simp only [wpListIn]
    split at hp
    ·rename_i hg;have hw : Region.wanted o (yielded all a.tmps) = true:=dw h.2 hg;rw [hw,if_pos rfl];exact x6 hT h hp (fun v w' hk=>iw hT hQ l _ w' _ (h.put hd v) hk)
    ·rename_i hg;have hw : Region.wanted o (yielded all a.tmps) = false:=dw h.2 hg;rw [hw,if_neg (by decide)];exact ⟨fun _ _=>trivial,iw hT hQ l _ w _ (h.put hd undef) hp⟩
    ·exact hp.elim
theorem gg (E' : Env) (R : World → Prop) (hT : Tab.ok P T) {id : Nat} {ops : Array Oper} {Q : Exit → Act → World → Prop} {a : Act} {E : Env} {w : World} (h : StD ds N a E)
  (hk : opsK P T N ops.toList (fun E2 w2=>Sub E2 E' ∧ R w2) ops.toList E w) (hq : ∀ a' w',StD ds N a' E' → R w' → Q .normal a' w') : (Code.region id ops false).wpIn (WF ro) 0 P Q a w:=by
 have:=iw (ro:=ro) hT (all:=ops) (Q:=Q) (r:=[]) (fun _ _ a' hK hs=>hq a' _ (hs.sub hK.1) hK.2) ops.toList E w a h hk
 rw [List.append_nil] at this;exact wpIn_region_list this
theorem aij (n : Nat) (E' : Env) (R : World → Prop) (hT : Tab.ok P T) {id : Nat} {ops : Array Oper} {Q : Exit → Act → World → Prop} {a : Act} {E : Env} {w : World} (h : StD ds N a E)
  (hk : opsK P T N ops.toList (fun E2 w2=>Sub E2 E' ∧ R w2) (ops.toList.take n) E w) (hq : ∀ a' w',StD ds N a' E' → R w' → wpListIn (WF ro) 0 P ops Q (ops.toList.drop n) a' w') : (Code.region id ops false).wpIn (WF ro) 0 P Q a w:=by
 have:=iw (ro:=ro) hT (all:=ops) (Q:=Q) (r:=ops.toList.drop n) (fun _ _ a' hK hs=>hq a' _ (hs.sub hK.1) hK.2) (ops.toList.take n) E w a h hk
 rw [List.take_append_drop] at this;exact wpIn_region_list this
theorem yh (E' : Env) (R : World → Prop) (hT : Tab.ok P T) {all : Array Oper} {l : List Oper} {Q : Exit → Act → World → Prop} {a : Act} {E : Env} {w : World} (h : StD ds N a E)
  (hk : opsK P T N all.toList (fun E2 w2=>Sub E2 E' ∧ R w2) l E w) (hq : ∀ a' w',StD ds N a' E' → R w' → Q .normal a' w') : wpListIn (WF ro) 0 P all Q l a w:=by
 have:=iw (ro:=ro) hT (all:=all) (Q:=Q) (r:=[]) (fun _ _ a' hK hs=>hq a' _ (hs.sub hK.1) hK.2) l E w a h hk
 rwa [List.append_nil] at this
theorem condD {c : Operand} {x y : Code} {Q : Exit → Act → World → Prop} {a : Act} {E : Env} {w : World} {b : Bool} {F : Fence} {n : Nat} (h : StD ds N a E) (hc : opd E c = some (.bool b)) (ht : b = true → x.wpIn F n P Q a w) (hf : b = false → y.wpIn F n P Q a w) : (Code.cond c x y).wpIn F n P Q a w:=
 wpIn_cond_split (by rw [← qo]; exact bi h.2 hc) ht hf
theorem adm {all : Array Oper} {a : Act} {E : Env} {o : Oper} {c : Call} {f : Operand} {l : Nat} {vs : List Value} {list rest : List Oper} {w : World} {R : Ending → World → Prop} {Q : Exit → Act → World → Prop} (e : list = o :: rest) (h : StD ds N a E) (hd : k9 N o.dst = true) (hg : gk all.toList E o.guard = some true)
  (ho : o.op = .call c) (hc : c.callee = .value f) (hf : opd E f = some (.func (.yield l) #[] #[])) (hv : opds E c.args.toList = some vs) (hy : YieldAt Fence.wide 0 P l vs.toArray w R)
  (hR : ∀ e w',R e w' → ∃ v,e = .returned v ∧ ∀ a',StD ds N a' (upd E o.dst v) → wpListIn (WF none) 0 P all Q rest a' w') : wpListIn (WF none) 0 P all Q list a w:=by
 subst e;obtain ⟨fn,tmps,assign,body,hrun,hround⟩:=hy;have hw : Region.wanted o (yielded all a.tmps) = true:=dw h.2 hg;simp only [wpListIn];rw [hw,if_pos rfl];refine ⟨fun _ _=>trivial,?_⟩
 have hargs : (c.args.map a.eval) = vs.toArray:=by
  rw [← ic h.2 hv,← Array.toList_map,Array.toArray_toList,qo]
 have hf' : a.eval f = .func (.yield l) #[] #[]:=by rw [← qo]; exact bi h.2 hf
 have hr : ((o.semAt (WF none).round a.eval).run P w) = .ok (.round l fn tmps assign body) w:=by
  show (execOp a.eval o).run P w = _;simp only [execOp,ho,resolve,hc,hf',Deferred.ofValue,Sem.run_bind,Sem.run_pure,Result.andThen_ok,invoke,hargs,Array.empty_append];simp [hrun]
 rw [hr];refine ⟨fun h=>(by cases h),RoundIn.mono (hround : RoundIn (WF none) 0 P l fn tmps assign body w R) ?_⟩;intro e w2 h2;obtain ⟨v,rfl,h3⟩:=hR e w2 h2;exact h3 _ (h.put hd v)
theorem agf {fn : Func} {R : Ending → World → Prop} {a : Act} {E : Env} {w : World} {D : Nat} {v : Value} (h : StD [{ target:=.collected D,args:=#[] }] N a E) (hD : w.heap[D]? = some (.deferred (some []))) (hr : (results fn a.tmps).run P (w.putObj D (.deferred none)) = .ok v (w.putObj D (.deferred none))) (hR : R (.returned v) (w.putObj D (.deferred none))) :
  bodyPostM (WF none) 0 P fn R .ret a w:=by
 show LeavesInM (WF none) 0 P fn a.tmps R a.defers .returning w;rw [h.1];exact ⟨by simp,.inl ⟨D,_,rfl,run_takeDeferred hD,v,hr,hR⟩⟩
end
end
section
open Go Sym
theorem en_each : bk Tryz.prog 27 = true:=by kernel_rfl
theorem en_tz : bk Tryz.prog 61 = true:=by kernel_rfl
theorem each_r5 {b u l : Nat} {w : World} {A B : World → Prop} {Q : Exit → Act → World → Prop} {a : Act} {ops : Array Oper} {id : Nat} (hops : Sym.da Tryz.f27.body 5 = some (id,ops))
  (hS : St Tryz.f27.ntmps a [(1,.func (.yield l) #[] #[]),(4,Vi (0 : Nat)),(5,Vu u),(6,Vp b),(7,Vi (0 : Nat))]) (hu0 : 0 < u) (hu : u < 16384) (ht : pt w)
  (hy : YieldAt Fence.wide 0 Tryz.prog l #[Vi (lowb 14 u : Nat)] w fun e w'=>(e = .returned (.bool true) ∧ A w') ∨ (e = .returned (.bool false) ∧ B w'))
  (h1 : ∀ a' w',St Tryz.f27.ntmps a' [(1,.func (.yield l) #[] #[]),(4,Vi (0 : Nat)),(5,Vu u),(6,Vp b),(7,Vi (0 : Nat)),(26,.bool false)] → A w' → Q .normal a' w') (h2 : ∀ a' w',St Tryz.f27.ntmps a' [(1,.func (.yield l) #[] #[]),(4,Vi (0 : Nat)),(5,Vu u),(6,Vp b),(7,Vi (0 : Nat)),(26,.bool true)] → B w' → Q .normal a' w') : (Code.region id ops false).wp Tryz.prog Q a w:=by
 cases hops
 refine (wpIn_wide (n:=0)).1 (aij (ro:=none) 6 [(1,.func (.yield l) #[] #[]),(4,Vi (0 : Nat)),(5,Vu u),(6,Vp b),(7,Vi (0 : Nat)),(19,.func (.yield l) #[] #[]),(24,Vi (lowb 14 u : Nat))] (· = w) af (.of hS) ?_ (fun a1 w1 hS hw=>?_))
 ·obtain ⟨hj,-⟩:=chk hu hu0;have hc:=tz_any w ht hu0 hu
  revert hj hc
  generalize lowb 14 u = r
  intro hj hc
  repeat refine zX rfl ?_
  refine zN rfl (lz 0 64 (by omega)) ?_
  repeat refine zX rfl ?_
  refine zF rfl (en_tz) (hc) ?_;rintro e w2 ⟨rfl,rfl⟩;refine ⟨_,rfl,?_⟩;refine zN rfl (bm 0 r (by omega)) ?_;rw [Nat.zero_add];exact aj ⟨⟨rfl,rfl,rfl,rfl,rfl,rfl,rfl,trivial⟩,rfl⟩
 subst hw;refine adm (vs:=[Vi (lowb 14 u : Nat)]) rfl hS rfl rfl rfl rfl rfl rfl hy ?_;rintro e w2 (⟨rfl,hA⟩ | ⟨rfl,hB⟩)
 ·refine ⟨_,rfl,fun a2 hS=>?_⟩;refine yh [(1,.func (.yield l) #[] #[]),(4,Vi (0 : Nat)),(5,Vu u),(6,Vp b),(7,Vi (0 : Nat)),(26,.bool false)] (· = w2) af hS ?_ (fun a3 w3 hS hw=>?_)
  ·repeat refine zX rfl ?_
   exact aj ⟨⟨rfl,rfl,rfl,rfl,rfl,rfl,trivial⟩,rfl⟩
  subst hw;exact h1 a3 w3 hS.st hA
 ·refine ⟨_,rfl,fun a2 hS=>?_⟩;refine yh [(1,.func (.yield l) #[] #[]),(4,Vi (0 : Nat)),(5,Vu u),(6,Vp b),(7,Vi (0 : Nat)),(26,.bool true)] (· = w2) af hS ?_ (fun a3 w3 hS hw=>?_)
  ·repeat refine zX rfl ?_
   exact aj ⟨⟨rfl,rfl,rfl,rfl,rfl,rfl,trivial⟩,rfl⟩
  subst hw;exact h2 a3 w3 hS.st hB
theorem ret0r {P : Program} {N : Nat} {fn : Func} {R : Ending → World → Prop} {a : Act} {E : Env} {w : World} (h : St N a E) (hr : fn.results = #[]) (hR : R (.returned (.tuple #[])) w) : bodyPost P fn R .ret a w:=
 ⟨h.defers,_,by simp [results,hr],hR⟩
theorem ahp {u j : Nat} (h : bitP u j) : u ≠ 0:=fun e=>by subst e; simp [bitP] at h
theorem ajr {b x l : Nat} {w : World} {J Jx : List Nat → World → Prop} (hx : x < 16384) (hb : ∀ xs W W',J xs W → RowKit.Below W.heap.size W W' → J xs W') (ht : ∀ xs W,J xs W → pt W) (hc : ∀ xs W,J xs W → ∀ k,k < 63 → W.cell? ⟨b,0 + k,none⟩ = some (Vu (if k = 0 then x else 0)))
  (hY : ∀ pre y W,J pre W → bitP x y → YieldAt Fence.wide 0 Tryz.prog l #[Vi y] W fun e w'=>(e = .returned (.bool true) ∧ J (pre ++ [y]) w') ∨ (e = .returned (.bool false) ∧ Jx (pre ++ [y]) w')) (h0 : J [] w) :
  Calls Tryz.prog 27 #[Vp b,.func (.yield l) #[] #[]] w fun e w'=>e = .returned (.tuple #[]) ∧ ((∃ xs,(∀ j,j ∈ xs ↔ bitP x j) ∧ J xs w') ∨ ∃ pre,(∀ j ∈ pre,bitP x j) ∧ Jx pre w'):=by
 refine Sym.c8 (args:=[Vp b,.func (.yield l) #[] #[]]) Tryz.func27 rfl rfl rfl (fun a0 hS0=>?_);refine wp_seq (ai [(1,.func (.yield l) #[] #[]),(6,Vp b),(7,Vi (0 : Nat))] (· = w) af hS0 ?_ (fun a w1 hS hw=>?_))
 ·repeat refine zX rfl ?_
  exact aj ⟨⟨rfl,rfl,rfl,trivial⟩,rfl⟩
 subst hw;refine wp_block (cz hS (fun γ E wr=>∃ (k : Nat) (pre : List Nat),k ≤ 63 ∧ γ = 63 - k ∧ E = [(1,.func (.yield l) #[] #[]),(6,Vp b),(7,Vi k)] ∧ (∀ j,j ∈ pre ↔ bitP x j ∧ k ≠ 0) ∧ J pre wr) 63 ⟨0,[],by omega,rfl,rfl,by simp,h0⟩ ?_);clear hS h0;rintro γ E wr a1 ⟨k,pre,hk,rfl,rfl,hpre,hJ⟩ hS;refine wp_seq (ai [(1,.func (.yield l) #[] #[]),(6,Vp b),(7,Vi k),(8,.bool (decide (k < 63)))] (· = wr) af hS ?_ (fun a w4 hS hw=>?_))
 ·refine zC rfl (co k 63) ?_
  repeat refine zX rfl ?_
  exact aj ⟨⟨rfl,rfl,rfl,rfl,trivial⟩,rfl⟩
 subst hw;refine wp_seq (cond hS rfl (fun hT=>wp_skip ?_) (fun hF=>?_))
 rotate_left
 ·have hge : k ≠ 0:=by have:=of_decide_eq_false hF; omega
  refine wp_exit ?_
  repeat first|refine bf ?_|refine ba ?_|refine az rfl ?_
  exact ret0 hS rfl ⟨rfl,.inl ⟨pre,fun j=>by rw [hpre j]; simp [hge],hJ⟩⟩
 have hlt : k < 63:=of_decide_eq_true hT;obtain ⟨u,hu⟩ : ∃ u,(if k = 0 then x else 0) = u:=⟨_,rfl⟩;have hcell:=hc _ _ hJ k hlt;rw [hu] at hcell;refine wp_seq (wp_block ?_);refine wp_seq (b6 [(1,.func (.yield l) #[] #[]),(6,Vp b),(7,Vi k),(4,Vi k),(5,Vu u)] af dc (by kernel_rfl) hS ?_ (fun a w5 hS hw'=>?_))
 ·repeat refine qX rfl ?_
  refine qI rfl (rfl) (hlt) ?_;refine qL rfl (hcell) ?_
  repeat refine qX rfl ?_
  exact fa ⟨rfl,rfl,rfl,rfl,rfl,trivial⟩
 replace hJ:=hb _ _ _ hJ hw';clear hw' hcell;have hu2 : u < 16384:=by rw [← hu]; split <;> omega
 have hk0 : u ≠ 0 → k = 0:=fun h=>Classical.byContradiction fun hn=>by rw [if_neg hn] at hu; exact h hu.symm
 have hin : ∀ j,j ∈ pre ↔ bitP x j ∧ ¬ bitP u j:=fun j=>by
  rw [hpre j,← hu]
  by_cases h : k = 0
  ·simp [h]
  ·simp [h,bitP]
 have hsub : ∀ j,bitP u j → bitP x j:=fun j hj=>by
  have:=hk0 (ahp hj)
  rw [← hu,if_pos this] at hj;exact hj
 clear hpre;refine wp_block (cz hS (fun γ E wr=>∃ (u : Nat) (pre : List Nat),u < 16384 ∧ γ = u ∧ (u ≠ 0 → k = 0) ∧ E = [(1,.func (.yield l) #[] #[]),(6,Vp b),(7,Vi k),(4,Vi k),(5,Vu u)] ∧ (∀ j,j ∈ pre ↔ bitP x j ∧ ¬ bitP u j) ∧ (∀ j,bitP u j → bitP x j) ∧ J pre wr) u ⟨u,pre,hu2,rfl,hk0,rfl,hin,hsub,hJ⟩ ?_);clear hS hJ hin hsub hu2 hk0 hu;clear u pre;rintro γ E wr a1 ⟨u,pre,hu2,rfl,hk0,rfl,hin,hsub,hJ⟩ hS;refine wp_seq (wp_seq (ai [(1,.func (.yield l) #[] #[]),(6,Vp b),(7,Vi k),(4,Vi k),(5,Vu γ),(14,.bool (decide (γ ≠ 0)))] (· = wr) af hS ?_ (fun a w6 hS hw'=>?_)))
 ·repeat refine zX rfl ?_
  refine zC rfl (af5 γ 0) ?_;exact aj ⟨⟨rfl,rfl,rfl,rfl,rfl,rfl,trivial⟩,rfl⟩
 subst hw';refine cond hS rfl (fun hT2=>wp_skip ?_) (fun hF2=>?_)
 rotate_left
 ·have hu0 : γ = 0:=by have:=of_decide_eq_false hF2; omega
  subst hu0;refine wp_exit ?_
  repeat first|refine bf ?_|refine ba ?_|refine az rfl ?_
  refine ay ?_;refine ai [(1,.func (.yield l) #[] #[]),(6,Vp b),(7,Vi (k + 1 : Nat))] (· = w6) af hS ?_ (fun a w7 hS hw'=>?_)
  ·refine zN rfl (bm k 1 (by omega)) ?_
   repeat refine zX rfl ?_
   exact aj ⟨⟨rfl,rfl,rfl,trivial⟩,rfl⟩
  subst hw';exact ⟨63 - (k + 1),_,by omega,⟨k + 1,pre,by omega,rfl,rfl,fun j=>by rw [hin j]; simp [bitP],hJ⟩,hS⟩
 have hu0 : γ ≠ 0:=of_decide_eq_true hT2;obtain rfl:=hk0 hu0;have hpos : 0 < γ:=by omega
 obtain ⟨hj14,hjb,-⟩:=chk hu2 hpos;refine wp_seq (wp_block ?_);refine wp_seq (each_r5 rfl (hS.sub ⟨rfl,rfl,rfl,rfl,rfl,trivial⟩) hpos hu2 (ht _ _ hJ) (hY pre _ _ hJ (hsub _ hjb)) (fun a7 w7 hS7 hJ7=>?_) (fun a7 w7 hS7 hJ7=>?_))
 ·refine cond hS7 rfl (fun h=>by cases h) (fun _=>wp_skip ?_);refine ay ?_;refine ai [(1,.func (.yield l) #[] #[]),(6,Vp b),(7,Vi (0 : Nat)),(4,Vi (0 : Nat)),(5,Vu (γ &&& (γ - 1)))] (· = w7) af hS7 ?_ (fun a w8 hS hw'=>?_)
  ·repeat refine zX rfl ?_
   refine zN rfl (sub_u64 hpos (lt64 hu2)) ?_;refine zN rfl (abe (lt64 hu2) (by omega)) ?_
   repeat refine zX rfl ?_
   exact aj ⟨⟨rfl,rfl,rfl,rfl,rfl,trivial⟩,rfl⟩
  subst hw';have hlt2:=take_lt hpos;refine ⟨_,_,hlt2,⟨γ &&& (γ - 1),pre ++ [lowb 14 γ],by omega,rfl,fun _=>rfl,rfl,fun j=>?_,fun j hj=>?_,hJ7⟩,hS⟩
  ·rw [List.mem_append,List.mem_singleton,hin j,acp hu2 hpos j]
   by_cases e : j = lowb 14 γ
   ·subst e;simp [hjb];exact hsub _ hjb
   ·simp [e]
  ·exact hsub j ((acp hu2 hpos j).1 hj).1
 ·refine cond hS7 rfl (fun _=>?_) (fun h=>by cases h);refine wp_ret ?_
  repeat first|refine a8 ?_|refine am ?_
  refine ret0r hS7 rfl ⟨rfl,.inr ⟨_,fun j hj=>?_,hJ7⟩⟩
  rcases List.mem_append.1 hj with hj | hj
  ·exact ((hin j).1 hj).1
  ·rw [List.mem_singleton.1 hj]; exact hsub _ hjb
end
section
open Go Sym
theorem uv {g : Operand} {ps : Array Tmp} {assign body : Code} {Q : Exit → Act → World → Prop} {a : Act} {w : World} {b x : Nat} (hg : a.eval g = .func (.func 27) #[Vp b] #[]) (hps : ps.size = 1) (hx : x < 16384) (had : a.defers = [])
  (I : List Nat → World → Prop) (Ix : Code → List Nat → World → Prop)
  (hb : ∀ xs W W',I xs W → RowKit.Below W.heap.size W W' → I xs W') (hp : ∀ xs W l o o',w.heap.size ≤ l → I xs W → W.heap[l]? = some o → o.isCells = false → I xs (W.putObj l o')) (hxp : ∀ c xs W l o o',w.heap.size ≤ l → Ix c xs W → W.heap[l]? = some o → o.isCells = false → Ix c xs (W.putObj l o'))
  (ht : ∀ xs W,I xs W → pt W) (hc : ∀ xs W,I xs W → ∀ k,k < 63 → W.cell? ⟨b,0 + k,none⟩ = some (Vu (if k = 0 then x else 0))) (h0 : I [] w) (A : Nat → Act → Prop)
  (hassign : ∀ (l y : Nat) (W : World) (K : Act → World → Prop),(∀ a1,A y a1 → K a1 W) → assign.wpIn (FR l) 0 Tryz.prog (Exit.then K (fun _ _ _=>False)) { tmps:=(ps.zip #[Vi y]).foldl (fun t (p,v)=>t.setIfInBounds p v) a.tmps,defers:=[] } W)
  (hbody : ∀ (l : Nat) (pre : List Nat) (y : Nat) (W : World) (a1 : Act),A y a1 → I pre W → bitP x y → body.wpIn (FR l) 0 Tryz.prog (ownPost I Ix (pre ++ [y]) W) a1 W)
  (hdone : ∀ (D : Nat) (xs : List Nat) (W : World),w.heap.size ≤ D → (∀ j,j ∈ xs ↔ bitP x j) → I xs W → W.heap[D]? = some (.deferred (some [])) → Q .normal { tmps:=a.tmps,defers:=[{ target:=.collected D,args:=#[] }] } W)
  (hstop : ∀ (D : Nat) (c : Code) (pre : List Nat) (W : World),w.heap.size ≤ D → (∀ j ∈ pre,bitP x j) → Ix c pre W → W.heap[D]? = some (.deferred (some [])) → c.wpIn Fence.wide 0 Tryz.prog Q { tmps:=a.tmps,defers:=[{ target:=.collected D,args:=#[] }] } W) :
  (Code.rangeFunc g ps assign body).wpIn Fence.wide 0 Tryz.prog Q a w:=by
 refine wpIn_rangeFunc ?_;intro fn _;obtain ⟨rec,hrec⟩ : ∃ rec : LoopState → Option Code → Loop,rec = fun st pe=>{ state:=st,pending:=pe,fn,tmps:=a.tmps,params:=ps,assign,body,defers:=w.heap.size }:=⟨_,rfl⟩;obtain ⟨W1,hW1⟩ : ∃ W1,(w.alloc (.deferred (some []))).alloc (.loop (rec .ready none)) = W1:=⟨_,rfl⟩
 have hL1 : W1.heap[w.heap.size + 1]? = some (.loop (rec .ready none)):=by
  rw [← hW1]; have:=World.alloc_heap_new (w.alloc (.deferred (some []))) (.loop (rec .ready none)); rwa [World.size_alloc] at this
 have hK1 : W1.heap[w.heap.size]? = some (.deferred (some [])):=by
  rw [← hW1]; exact (RowKit.Below.heap_alloc _ _ _ (by simp)).trans (World.alloc_heap_new w _)
 have hI1 : I [] W1:=by
  refine hb _ _ _ h0 ?_;rw [← hW1];exact ((RowKit.Below.refl _ w).alloc (Nat.le_refl _) _).alloc (by simp) _
 have hmark : ∀ {D : Nat},({ tmps:=a.tmps,defers:=[{ target:=.collected D,args:=#[] }] ++ a.defers } : Act) = { tmps:=a.tmps,defers:=[{ target:=.collected D,args:=#[] }] }:=by intro D; rw [had]; rfl
 refine ⟨w.heap.size + 1,[{ target:=.collected w.heap.size,args:=#[] }],W1,{ target:=.fn (.func 27) #[],args:=#[Vp b,.func (.yield (w.heap.size + 1)) #[] #[]] },W1,27,
  #[Vp b,.func (.yield (w.heap.size + 1)) #[] #[]],W1,?_,?_,?_,?_,fun h=>(by cases h),?_⟩
 ·rw [← hW1,hrec]; exact run_enterLoop_outer _ _ _ _ _
 ·simp only [resolve,hg];simp [Deferred.ofValue,Act.eval]
 ·intro f' _; trivial
 ·have:=qp en_each (#[Vp b,.func (.yield (w.heap.size + 1)) #[] #[]] ++ #[]) W1
  simp only [invoke];rw [this];simp
 ·refine callsIn_wide.2 (Calls.mono (ajr (x:=x) (l:=w.heap.size + 1) (w:=W1)
   (J:=fun pre W=>I pre W ∧ W.heap[w.heap.size + 1]? = some (.loop (rec .ready none)) ∧ W.heap[w.heap.size]? = some (.deferred (some [])))
   (Jx:=fun pre W=>∃ c,Ix c pre W ∧ W.heap[w.heap.size + 1]? = some (.loop (rec .done (some c))) ∧ W.heap[w.heap.size]? = some (.deferred (some [])))
   hx ?_ (fun _ _ h=>ht _ _ h.1) (fun _ _ h=>hc _ _ h.1) ?_ ⟨hI1,hL1,hK1⟩) ?_)
  ·rintro xs W W' ⟨h1,h2,h3⟩ hB;exact ⟨hb _ _ _ h1 hB,(hB.block _ (Array.getElem?_eq_some_iff.1 h2).1).trans h2,(hB.block _ (Array.getElem?_eq_some_iff.1 h3).1).trans h3⟩
  ·rintro pre y W ⟨hi,hl,hk⟩ hy;have hlt : w.heap.size + 1 < W.heap.size:=(Array.getElem?_eq_some_iff.1 hl).1;have hyr:=run_yield (P:=Tryz.prog) (args:=#[Vi y]) hl (by rw [hrec]; simp [hps]);rw [hrec] at hyr;refine ⟨fn,_,assign,body,hyr,roundIn_of_wpIn trivial (hassign _ y W _ (fun a1 hA=>⟨_,run_beginRound hl (by rw [hrec]),?_⟩))⟩;have hl2 : (W.putObj (w.heap.size + 1) (.loop { rec .ready none with state:=.busy })).heap[w.heap.size + 1]? = some (.loop { rec .ready none with state:=.busy }):=World.putObj_heap_same hlt
   have hk2 : (W.putObj (w.heap.size + 1) (.loop { rec .ready none with state:=.busy })).heap[w.heap.size]? = some (.deferred (some [])):=(World.putObj_heap_other (by omega)).trans hk
   refine wpIn_mono (hbody _ pre y _ a1 hA (hp _ _ _ _ _ (by omega) hi hl rfl) hy) ?_
   have fin : ∀ (jump : Option Code) (W3 : World),KeepsOthers (W.putObj (w.heap.size + 1) (.loop { rec .ready none with state:=.busy })) W3 →
     (Instr.endRound (w.heap.size + 1) jump).run Tryz.prog W3 = .ok (.bool jump.isNone) (W3.putObj (w.heap.size + 1) (.loop (rec (if jump.isNone then .ready else .done) jump))) ∧
     W3.heap[w.heap.size + 1]? = some (.loop { rec .ready none with state:=.busy }) ∧
     (W3.putObj (w.heap.size + 1) (.loop (rec (if jump.isNone then .ready else .done) jump))).heap[w.heap.size + 1]? = some (.loop (rec (if jump.isNone then .ready else .done) jump)) ∧
     (W3.putObj (w.heap.size + 1) (.loop (rec (if jump.isNone then .ready else .done) jump))).heap[w.heap.size]? = some (.deferred (some [])):=fun jump W3 hk3=>by
    have hl3:=hk3.same _ _ hl2 rfl
    have:=run_endRound (P:=Tryz.prog) jump hl3
    rw [hrec] at this ⊢;exact ⟨this,by rw [hrec] at hl3; exact hl3,World.putObj_heap_same (Array.getElem?_eq_some_iff.1 hl3).1,(World.putObj_heap_other (by omega)).trans (hk3.same _ _ hk2 rfl)⟩
   rintro e a3 W3 hpo
   cases e with
   | normal=>
     obtain ⟨hk3,hi3⟩:=hpo;obtain ⟨hr,hl3,hl4,hk4⟩:=fin none W3 hk3;exact ⟨_,_,hr,.inl ⟨rfl,hp _ _ _ _ _ (by omega) hi3 hl3 rfl,hl4,hk4⟩⟩
   | ret=>
     obtain ⟨hk3,hi3⟩:=hpo;obtain ⟨hr,hl3,hl4,hk4⟩:=fin (some .ret) W3 hk3;exact ⟨_,_,hr,.inr ⟨rfl,.ret,hxp _ _ _ _ _ _ (by omega) hi3 hl3 rfl,hl4,hk4⟩⟩
   | exit id=>
     obtain ⟨hk3,hi3⟩:=hpo;obtain ⟨hr,hl3,hl4,hk4⟩:=fin (some (.exit id)) W3 hk3;exact ⟨_,_,hr,.inr ⟨rfl,.exit id,hxp _ _ _ _ _ _ (by omega) hi3 hl3 rfl,hl4,hk4⟩⟩
   | goto t=>
     obtain ⟨hk3,hi3⟩:=hpo;obtain ⟨hr,hl3,hl4,hk4⟩:=fin (some (.goto t)) W3 hk3;exact ⟨_,_,hr,.inr ⟨rfl,.goto t,hxp _ _ _ _ _ _ (by omega) hi3 hl3 rfl,hl4,hk4⟩⟩
   | panic ch=>exact hpo.elim
   | outgrown=>exact hpo.elim
  ·rintro e W2 ⟨rfl,(⟨xs,hS,hi,hl,hk⟩ | ⟨pre,hSp,c,hi,hl,hk⟩)⟩
   ·obtain ⟨o',hE⟩ : ∃ o',(Instr.endLoop (w.heap.size + 1)).run Tryz.prog W2 = .ok none (W2.putObj (w.heap.size + 1) o'):=⟨_,by have:=run_endLoop (P:=Tryz.prog) hl (by rw [hrec]; simp); rw [hrec] at this; exact this⟩;refine ⟨none,_,hE,?_⟩
    have:=hdone w.heap.size xs (W2.putObj (w.heap.size + 1) o') (Nat.le_refl _) hS (hp _ _ _ _ _ (by omega) hi hl rfl) ((World.putObj_heap_other (by omega)).trans hk)
    rw [← hmark] at this;exact this
   ·obtain ⟨o',hE⟩ : ∃ o',(Instr.endLoop (w.heap.size + 1)).run Tryz.prog W2 = .ok (some c) (W2.putObj (w.heap.size + 1) o'):=⟨_,by have:=run_endLoop (P:=Tryz.prog) hl (by rw [hrec]; simp); rw [hrec] at this; exact this⟩;refine ⟨some c,_,hE,?_⟩
    have:=hstop w.heap.size c pre (W2.putObj (w.heap.size + 1) o') (Nat.le_refl _) hSp (hxp _ _ _ _ _ _ (by omega) hi hl rfl) ((World.putObj_heap_other (by omega)).trans hk)
    rw [← hmark] at this;exact this
end
section
open Go Sym
theorem xo : bk Tryz.prog 23 = true:=by kernel_rfl
section
variable {α : Type} {f : Value → α → Ow}
theorem aek : ∀ (vs : List Value) (Ls : List α) (i : Nat) (v : Value) (l : α),List.zipWith f (vs.set i v) (Ls.set i l) = (List.zipWith f vs Ls).set i (f v l)
 | [],_,_,_,_=>by simp
 | _ :: _,[],i,_,_=>by cases i <;> simp
 | _ :: vs,_ :: Ls,0,_,_=>rfl
 | _ :: vs,_ :: Ls,i + 1,v,l=>by simp only [List.set_cons_succ,List.zipWith_cons_cons,List.cons.injEq,true_and]; exact aek vs Ls i v l
theorem ael {us : List Value} {Ls : List α} (hl : us.length = Ls.length) {j : Nat} (hj : j < Ls.length) : (List.zipWith f us Ls)[j]? = some (f (us[j]'(by omega)) Ls[j]):=by
 rw [List.getElem?_zipWith,List.getElem?_eq_getElem (show j < us.length by omega),List.getElem?_eq_getElem hj]
theorem zo {base : Nat} {w0 w : World} {l : List Ow} {x0 : α} {e s : Nat} (hf : f (.slice none 0 0) x0 = ⟨.slice none 0 0,e,s,0,[]⟩) (h : Hold base w0 w l) : ∀ k : Nat,Hold base w0 w (l ++ List.zipWith f (List.replicate k (.slice none 0 0)) (List.replicate k x0))
 | 0=>by simpa using h
 | k + 1=>by
   have h1:=(zo hf h k).nil e s;rw [List.replicate_succ,List.replicate_succ,List.zipWith_cons_cons,hf];exact h1.perm (List.perm_middle (l₁:=l)).symm
end
abbrev w32s (l : List Int) : List Value:=l.map (Value.int .i32)
abbrev oW (v : Value) (l : List Int) : Ow:=⟨v,21,1,l.length,w32s l⟩
theorem fill32 (a : Int) (z : Value) : Instr.fill (fun i=>some (i * 1,1)) (madeCells #[z] 1) [(0,.int .i32 a)] = some #[.int .i32 a]:=by
 have h : (Value.int .i32 a).cells = #[.int .i32 a]:=rfl;simp [Instr.fill,madeCells,h,Array.range,Array.foldl];rfl
theorem i32_sm (x : Int) (h1 : -1 ≤ x) (h2 : x ≤ 1000000) : IntKind.i32.wrap x = x:=by
 by_cases h : 0 ≤ x
 ·obtain ⟨n,rfl⟩:=Int.eq_ofNat_of_zero_le h;exact pk n (by omega)
 ·obtain rfl : x = -1:=by omega
  rfl
def colP (next : List (List Int)) (Ln i k : Nat) : List (List Int):=(List.range Ln).map fun c=>(List.range (if c < k then i + 1 else i)).map fun s=>tgtM next (s : Nat) c
theorem pr (next : List (List Int)) (Ln i k : Nat) : (colP next Ln i k).length = Ln:=by simp [colP]
theorem colP_0 (next : List (List Int)) (Ln : Nat) : colP next Ln 0 0 = List.replicate Ln []:=by
 refine List.ext_getElem (by simp [colP]) fun j h1 h2=>by simp [colP]
theorem ahe (next : List (List Int)) (Ln i : Nat) : colP next Ln i Ln = colP next Ln (i + 1) 0:=by
 refine List.ext_getElem (by simp [colP]) fun j h1 h2=>?_;have hj : j < Ln:=by simpa [colP] using h1
 simp [colP,hj]
theorem m9 {next : List (List Int)} {Ln i k c : Nat} (hc : c < Ln) : (colP next Ln i k)[c]'(by rw [pr]; exact hc) = (List.range (if c < k then i + 1 else i)).map fun s=>tgtM next (s : Nat) c:=by simp [colP]
theorem aju {next : List (List Int)} {Ln i k : Nat} (hk : k < Ln) : (colP next Ln i k).set k ((colP next Ln i k)[k]'(by rw [pr]; exact hk) ++ [tgtM next i k]) = colP next Ln i (k + 1):=by
 refine List.ext_getElem (by simp [colP]) fun j h1 h2=>?_;have hj : j < Ln:=by simpa [colP] using h2
 rw [List.getElem_set]
 split
 ·rename_i e;subst e;rw [m9 hj,m9 hj,if_neg (by omega),if_pos (by omega),List.range_succ,List.map_append];rfl
 ·rename_i e;rw [m9 hj,m9 hj];have : (j < k) = (j < k + 1):=by simp; omega
  simp [this]
section
variable {base : Nat} {w0 w : World} {l : List Ow}
theorem Hold.makeC (h : Hold base w0 w l) {n : Nat} (hn : n ≤ 9223372036854775807) : Hold base w0 (w.alloc (.cells (madeCells #[.slice none 0 0] n) 59)) (⟨Vs w.heap.size n n,59,1,n,List.replicate n (.slice none 0 0)⟩ :: l):=by
 have h1:=h.lit (e:=59) (s:=1) (n:=n) (madeCells #[.slice none 0 0] n) (by simp [madeCells]) hn;rw [toList_madeCells_one] at h1;exact h1
end
set_option maxHeartbeats 2000000 in
theorem un (Ln : Nat) (s : Int) (vn ve : Value) (next : List (List Int)) (fin : List Bool) (w : World) (hm : Ma w Ln s next fin vn ve) (hs : Shape (Ln : Int) s next fin) (hn : next.length ≤ 1000) (hL : Ln ≤ 1000) :
  Calls Tryz.prog 23 #[.agg #[Vi Ln,Vi s,vn,ve]] w fun e w'=>∃ (g : Nat) (us : List Value),e = .returned (Vs g Ln Ln) ∧ us.length = Ln ∧ Hold w.heap.size w w' ((⟨Vs g Ln Ln,59,1,us.length,us⟩ : Ow) :: List.zipWith oW us (colP next Ln next.length 0)):=by
 refine Sym.c8 (args:=[.agg #[Vi Ln,Vi s,vn,ve]]) Tryz.func23 rfl rfl rfl (fun a0 hS0=>?_);obtain ⟨an,cn,rfl⟩:=hm.n.len;refine wp_seq (bg (α:=Nat) (fun M=>[(1,Vp M)]) (fun M w'=>OwnB w' M 25 [Vi Ln,Vi s,.slice an next.length cn,ve] ∧ RowKit.Below w.heap.size w w') af hS0 ?_ (fun M a w1 hS h=>?_))
 ·refine zB rfl ?_
  repeat refine zX rfl ?_
  exact aj ⟨_,⟨rfl,trivial⟩,OwnB.new _ _ _,ao _ _⟩
 obtain ⟨oM,hB⟩:=h;refine wp_seq (bg (α:=Nat) (fun g=>[(1,Vp M),(3,Vs g Ln Ln)]) (fun g w'=>Hold w1.heap.size w1 w' ((⟨Vs g Ln Ln,59,1,Ln,List.replicate Ln (.slice none 0 0)⟩ : Ow) :: [])) af hS ?_ (fun g a w2 hS h=>?_))
 ·have h2:=(Hold.start w1).makeC (n:=Ln) (by omega)
  repeat refine zX rfl ?_
  refine zL rfl (oM.cell (i:=0) rfl) ?_;refine zM (Ln) rfl rfl rfl rfl rfl ((by show 24 * _ ≤ _; omega)) ((by omega)) ?_
  repeat refine zX rfl ?_
  exact aj ⟨_,⟨rfl,rfl,trivial⟩,h2⟩
 have h0:=zo (f:=oW) (x0:=[]) (e:=21) (s:=1) rfl h Ln;rw [← colP_0 next Ln] at h0;refine wp_seq (wp_seq (ai [(3,Vs g Ln Ln),(12,.slice an next.length cn),(13,Vi next.length),(14,Vi (0 : Nat))] (· = w2) af hS ?_ (fun a w3 hS hw=>?_)))
 ·repeat refine zX rfl ?_
  refine zL rfl ((oM.keep h.b oM.lt).cell (i:=2) rfl) ?_
  repeat refine zX rfl ?_
  exact aj ⟨⟨rfl,rfl,rfl,rfl,trivial⟩,rfl⟩
 subst hw;refine wp_block (cz hS (fun γ E wr=>∃ (i : Nat) (us : List Value),i ≤ next.length ∧ γ = next.length - i ∧ E = [(3,Vs g Ln Ln),(12,.slice an next.length cn),(13,Vi next.length),(14,Vi i)] ∧ us.length = Ln ∧ Hold w1.heap.size w1 wr ((⟨Vs g Ln Ln,59,1,us.length,us⟩ : Ow) :: List.zipWith oW us (colP next Ln i 0))) next.length ⟨0,List.replicate Ln (.slice none 0 0),Nat.zero_le _,rfl,rfl,by simp,by rw [List.length_replicate]; exact h0⟩ ?_);clear hS h h0;rintro γ E wr a1 ⟨i,us,hi,rfl,rfl,hus,h⟩ hS;refine wp_seq (ai [(3,Vs g Ln Ln),(12,.slice an next.length cn),(13,Vi next.length),(14,Vi i),(15,.bool (decide (i < next.length)))] (· = wr) af hS ?_ (fun a w4 hS hw=>?_))
 ·refine zC rfl (co _ _) ?_
  repeat refine zX rfl ?_
  exact aj ⟨⟨rfl,rfl,rfl,rfl,rfl,trivial⟩,rfl⟩
 subst hw;refine wp_seq (cond hS rfl (fun hT=>wp_skip ?_) (fun hF=>?_))
 rotate_left
 ·have hge : i = next.length:=by have:=of_decide_eq_false hF; omega
  subst hge;refine wp_exit ?_
  repeat first|refine bf ?_|refine ba ?_|refine az rfl ?_
  refine wp_seq (ai [(2,Vs g Ln Ln)] (· = w4) af hS ?_ (fun a w5 hS hw'=>?_))
  ·repeat refine zX rfl ?_
   exact aj ⟨⟨rfl,trivial⟩,rfl⟩
  subst hw';refine wp_ret ?_
  repeat first|refine a8 ?_|refine am ?_
  exact ret1 hS rfl rfl ⟨g,us,rfl,hus,h.rebase hB.size (ak hB (h.b) |> fun x=>x) (Nat.le_trans hB.size h.s)⟩
 have hlt : i < next.length:=of_decide_eq_true hT;have hm1:=hm.keep hB;have hrl : next[i].length = Ln:=by have:=(hs.rows i hlt).1; omega
 obtain ⟨bn,on,cn2,hvn,ar,cr,hc1,hc2⟩:=hm1.cell hlt;simp only [Value.slice.injEq,true_and] at hvn;obtain ⟨rfl,rfl⟩:=hvn;refine wp_seq (wp_block ?_);refine wp_seq (ai [(3,Vs g Ln Ln),(12,.slice (some ⟨bn,on,none⟩) next.length cn),(13,Vi next.length),(14,Vi i),(5,.slice ar next[i].length cr)] (· = w4) af hS ?_ (fun a w5 hS hw=>?_))
 ·repeat refine zX rfl ?_
  refine zI rfl (rfl) (hlt) ?_;refine zL rfl (Go.Proofs.YtndldmojkpjgoaaGreatDoor.keep h.b hc1) ?_
  repeat refine zX rfl ?_
  exact aj ⟨⟨rfl,rfl,rfl,rfl,rfl,trivial⟩,rfl⟩
 subst hw;refine wp_seq (ai [(3,Vs g Ln Ln),(12,.slice (some ⟨bn,on,none⟩) next.length cn),(13,Vi next.length),(14,Vi i),(18,.slice ar next[i].length cr),(19,Vi Ln),(20,Vi (0 : Nat))] (· = w5) af hS ?_ (fun a w6 hS hw=>?_))
 ·rw [show (Vi Ln : Value) = Vi next[i].length by rw [hrl]]
  repeat refine zX rfl ?_
  exact aj ⟨⟨rfl,rfl,rfl,rfl,rfl,rfl,rfl,trivial⟩,rfl⟩
 subst hw;refine wp_block (cz hS (fun γ E wr=>∃ (k : Nat) (us : List Value),k ≤ Ln ∧ γ = Ln - k ∧ E = [(3,Vs g Ln Ln),(12,.slice (some ⟨bn,on,none⟩) next.length cn),(13,Vi next.length),(14,Vi i),(18,.slice ar next[i].length cr),(19,Vi Ln),(20,Vi k)] ∧ us.length = Ln ∧ Hold w1.heap.size w1 wr ((⟨Vs g Ln Ln,59,1,us.length,us⟩ : Ow) :: List.zipWith oW us (colP next Ln i k))) Ln ⟨0,us,Nat.zero_le _,rfl,rfl,hus,h⟩ ?_);clear hS h hus;rintro γ E wr a1 ⟨k,us,hk,rfl,rfl,hus,h⟩ hS;refine wp_seq (ai [(3,Vs g Ln Ln),(12,.slice (some ⟨bn,on,none⟩) next.length cn),(13,Vi next.length),(14,Vi i),(18,.slice ar next[i].length cr),(19,Vi Ln),(20,Vi k),(21,.bool (decide (k < Ln)))] (· = wr) af hS ?_ (fun a w7 hS hw=>?_))
 ·refine zC rfl (co _ _) ?_
  repeat refine zX rfl ?_
  exact aj ⟨⟨rfl,rfl,rfl,rfl,rfl,rfl,rfl,rfl,trivial⟩,rfl⟩
 subst hw;refine wp_seq (cond hS rfl (fun hT2=>wp_skip ?_) (fun hF2=>?_))
 rotate_left
 ·have hge : k = Ln:=by have:=of_decide_eq_false hF2; omega
  subst hge;refine wp_exit ?_
  repeat first|refine bf ?_|refine ba ?_|refine az rfl ?_
  refine ay ?_;refine ai [(3,Vs g k k),(12,.slice (some ⟨bn,on,none⟩) next.length cn),(13,Vi next.length),(14,Vi (i + 1 : Nat))] (· = w7) af hS ?_ (fun a w8 hS hw=>?_)
  ·repeat refine zX rfl ?_
   refine zN rfl (bm i 1 (by omega)) ?_
   repeat refine zX rfl ?_
   exact aj ⟨⟨rfl,rfl,rfl,rfl,trivial⟩,rfl⟩
  subst hw;rw [ahe] at h;exact ⟨next.length - (i + 1),_,by omega,⟨i + 1,us,hlt,rfl,rfl,hus,h⟩,hS⟩
 have hkL : k < Ln:=of_decide_eq_true hT2;have hkr : k < next[i].length:=by omega
 obtain ⟨x,hx⟩ : ∃ x,next[i][k] = x:=⟨_,rfl⟩;have hxr:=(hs.rows i hlt).2 k hkr;rw [hx] at hxr;have htg : tgtM next i k = x:=by rw [pw hlt hkr,hx]
 obtain ⟨br,orr,rfl,hc3⟩:=hc2 k hkr;rw [hx] at hc3;refine wp_seq (wp_block ?_);refine wp_seq (ai [(3,Vs g Ln Ln),(12,.slice (some ⟨bn,on,none⟩) next.length cn),(13,Vi next.length),(14,Vi i),(18,.slice (some ⟨br,orr,none⟩) next[i].length cr),(19,Vi Ln),(20,Vi k),(6,Vi k),(7,Vi x)] (· = w7) af hS ?_ (fun a w8 hS hw=>?_))
 ·repeat refine zX rfl ?_
  refine zI rfl (rfl) (hkr) ?_;refine zL rfl (Go.Proofs.YtndldmojkpjgoaaGreatDoor.keep h.b hc3) ?_
  repeat refine zX rfl ?_
  exact aj ⟨⟨rfl,rfl,rfl,rfl,rfl,rfl,rfl,rfl,rfl,trivial⟩,rfl⟩
 subst hw;have hcl : (colP next Ln i k).length = Ln:=pr _ _ _ _;have hku : k < us.length:=by omega
 have hzi : (((⟨Vs g Ln Ln,59,1,us.length,us⟩ : Ow) :: List.zipWith oW us (colP next Ln i k)))[1 + k]? = some (oW us[k] ((colP next Ln i k)[k]'(by omega))):=by
  rw [Nat.add_comm,List.getElem?_cons_succ];exact ael (by omega) (by omega)
 have hlc : ((colP next Ln i k)[k]'(by omega)).length = i:=by rw [m9 hkL,if_neg (by omega)]; simp
 obtain ⟨gu,cu,hgu,-⟩:=h.r.any hzi;refine bg (α:=Value) (fun _=>[(3,Vs g Ln Ln),(12,.slice (some ⟨bn,on,none⟩) next.length cn),(13,Vi next.length),(14,Vi i),(18,.slice (some ⟨br,orr,none⟩) next[i].length cr),(19,Vi Ln),(20,Vi k)]) (fun v' w'=>Hold w1.heap.size w1 w' ((⟨Vs g Ln Ln,59,1,(us.set k v').length,us.set k v'⟩ : Ow) :: List.zipWith oW (us.set k v') (colP next Ln i (k + 1)))) af hS ?_ (fun v' a w9 hS h=>?_)
 ·have hcu:=h.r.cellV (i:=0) (g:=g) (n:=Ln) (c:=Ln) rfl (j:=k) (u:=us[k]) (List.getElem?_eq_getElem hku);rw [hgu] at hcu;have h3:=h.alloc (.cells #[.int .i32 x] 21)
  repeat refine zX rfl ?_
  refine zI rfl (rfl) (hkL) ?_;refine zL rfl (hcu) ?_
  repeat refine zX rfl ?_
  refine zN rfl (i32_sm x (by omega) (by omega)) ?_
  repeat refine zX rfl ?_
  refine b8 rfl rfl rfl ?_;refine exI [(0,.int .i32 x)] (exI #[.int .i32 x] (anI (anI rfl rfl) (anI (by decide) (anI (fill32 _ _) ?_))))
  have ask : AppAsk (w8.alloc (.cells #[.int .i32 x] 21)) ⟨21,.int .i32,1,4,.int .i32 0⟩ (.slice gu ((colP next Ln i k)[k]'(by omega)).length cu) ((colP next Ln i k)[k]'(by omega)).length (w32s ((colP next Ln i k)[k]'(by omega))) (Vs w8.heap.size 1 1) 1 [.int .i32 x] w1.heap.size:=
   ⟨by have:=h3.r.1 _ _ hzi; rw [hgu] at this; exact this,.inr ⟨_,0,_,rfl,ax rfl,trivial⟩,rfl,(by simp [Value.oneCell']),(by omega),(by show (_ + 1) * 4 ≤ _; omega),h3.s⟩
  refine b8 rfl rfl rfl ?_;refine exI _ (exI _ (exI _ (exI _ (exI _ (anI (ask) (anI (fun _ h=>h.symm) (anI (by decide) ?_)))))));rintro v' w9 hown hgr - hat;have h4:=h3.app hzi (by exact hown) (by rw [hgu]; exact hgr) (by rw [hgu]; exact hat);have e1 : (⟨v',21,1,((colP next Ln i k)[k]'(by omega)).length + 1,w32s ((colP next Ln i k)[k]'(by omega)) ++ [.int .i32 x]⟩ : Ow) = oW v' ((colP next Ln i k)[k]'(by omega) ++ [tgtM next i k]):=by rw [htg]; simp [oW,w32s]
  rw [e1,Nat.add_comm 1 k,List.set_cons_succ] at h4;have h5:=h4.store (i:=0) rfl k v';have hck:=h4.r.cellV (i:=0) (g:=g) (n:=Ln) (c:=Ln) rfl (j:=k) (u:=us[k]) (List.getElem?_eq_getElem hku);have hfk:=h4.r.freeI (i:=0) (g:=g) (n:=Ln) (c:=Ln) rfl k;obtain ⟨g2,n2,c2,hv⟩:=df hown;subst hv
  repeat refine zX rfl ?_
  refine zI rfl (rfl) (hkL) ?_;refine zS rfl rfl (hck) (hfk) ?_;refine aj ⟨.slice g2 n2 c2,⟨rfl,rfl,rfl,rfl,rfl,rfl,rfl,trivial⟩,?_⟩;rw [← aju hkL,aek,List.length_set];exact h5
 refine ay ?_;refine ai [(3,Vs g Ln Ln),(12,.slice (some ⟨bn,on,none⟩) next.length cn),(13,Vi next.length),(14,Vi i),(18,.slice (some ⟨br,orr,none⟩) next[i].length cr),(19,Vi Ln),(20,Vi (k + 1 : Nat))] (· = w9) af hS ?_ (fun a w10 hS hw=>?_)
 ·repeat refine zX rfl ?_
  refine zN rfl (bm k 1 (by omega)) ?_
  repeat refine zX rfl ?_
  exact aj ⟨⟨rfl,rfl,rfl,rfl,rfl,rfl,rfl,trivial⟩,rfl⟩
 subst hw;exact ⟨Ln - (k + 1),_,by omega,⟨k + 1,us.set k v',hkL,rfl,rfl,by simp [hus],h⟩,hS⟩
end
end Go.Proofs.YtndldmojkpjgoaaGreatDoor
