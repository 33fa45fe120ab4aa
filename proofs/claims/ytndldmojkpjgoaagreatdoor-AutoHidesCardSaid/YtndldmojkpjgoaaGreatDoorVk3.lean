/- AutoHides holds of the program: the walks of its reference, its law and the program's Hide, and the card. -/
import Derived.Maps.OwnSet
import Derived.Test.YtndldmojkpjgoaaGreatDoorVk2
set_option maxRecDepth 100000
namespace Go.Proofs.YtndldmojkpjgoaaGreatDoor
section
def dj (st : List Nat) (nb : Nat) : List Nat → Nat → Nat → List Nat
 | bl,_,0=>bl
 | bl,i,k + 1=>dj st nb (bl.set (gt st i) nb) (i + 1) k
theorem nu (st : List Nat) (nb : Nat) : ∀ (k i : Nat) (bl : List Nat),(dj st nb bl i k).length = bl.length
 | 0,_,_=>rfl
 | k + 1,i,bl=>by rw [dj,nu st nb k]; simp
theorem r8 {st pl : List Nat} {N : Nat} (nb : Nat) (hsp : ∀ i,i < N → gt st i < N ∧ gt pl (gt st i) = i) (hps : ∀ s,s < N → gt pl s < N ∧ gt st (gt pl s) = s) :
  ∀ (k i : Nat) (bl : List Nat),bl.length = N → i + k ≤ N → ∀ t,t < N → gt (dj st nb bl i k) t = if i ≤ gt pl t ∧ gt pl t < i + k then nb else gt bl t
 | 0,i,bl,_,_,t,_=>by rw [dj,if_neg (by omega)]
 | k + 1,i,bl,hb,hk,t,ht=>by
   rw [dj,r8 nb hsp hps k (i + 1) _ (by simpa using hb) (by omega) t ht,fh];have h1:=hsp i (by omega);have h2:=hps t ht
   by_cases e : gt st i = t
   ·have : gt pl t = i:=by rw [← e]; exact h1.2
    rw [this,if_neg (by omega),if_pos (by omega),if_pos (by omega)]
   ·have hne : gt pl t ≠ i:=fun e2=>e (by rw [← e2]; exact h2.2)
    by_cases h3 : i + 1 ≤ gt pl t ∧ gt pl t < i + 1 + k
    ·rw [if_pos h3,if_pos (by omega)]
    ·rw [if_neg h3,if_neg (fun h=>e h.1),if_neg (by omega)]
def Pt.low (p : Pt) : Nat:=gt p.cs (p.cs.length - 1)
def Pt.splitOne (p : Pt) (old : Nat) : Pt:=
 let b:=gb p.bs old
 if b.marked = b.size then { p with bs:=p.bs.set old ⟨b.first,b.size,0,b.parent⟩ }
 else { p with bs:=p.bs.set old ⟨b.first + b.marked,b.size - b.marked,0,b.parent⟩ ++ [⟨b.first,b.marked,0,if p.low ≤ old then b.parent else old⟩],bl:=dj p.st p.bs.length p.bl b.first b.marked }
def Pt.split (p : Pt) : Pt:={ p.ml.foldl Pt.splitOne p with ml:=[] }
def Pt.base (p : Pt) (b : Nat) : Nat:=if p.low ≤ b then (gb p.bs b).parent else b
structure PH (p q : Pt) (N : Nat) : Prop where
 cs : q.cs = p.cs
 len : p.bs.length ≤ q.bs.length
 par : ∀ b,b < p.bs.length → (gb q.bs b).parent = (gb p.bs b).parent
 base : ∀ s,s < N → q.base (gt q.bl s) = p.base (gt p.bl s)
 low : ∀ b,b < q.bs.length → p.low ≤ b → b < p.bs.length ∨ ∃ c,c < p.bs.length ∧ (gb q.bs b).parent = p.base c
theorem PH.refl (p : Pt) (N : Nat) : PH p p N:=⟨rfl,Nat.le_refl _,fun _ _=>rfl,fun _ _=>rfl,fun _ h _=>.inl h⟩
theorem PH.trans {p q r : Pt} {N : Nat} (hpl : p.low ≤ p.bs.length) (h : PH p q N) (k : PH q r N) : PH p r N:=by
 have hl : q.low = p.low:=by unfold Pt.low; rw [h.cs]
 have bb : ∀ c,c < q.bs.length → (∃ c',c' < p.bs.length ∧ q.base c = p.base c'):=fun c hc=>by
  by_cases hlow : p.low ≤ c
  ·rcases h.low c hc hlow with h1 | ⟨c',h1,h2⟩
   ·refine ⟨c,h1,?_⟩;unfold Pt.base; rw [hl,if_pos hlow,if_pos hlow,h.par c h1]
   ·refine ⟨c',h1,?_⟩;rw [← h2]; unfold Pt.base; rw [hl,if_pos hlow]
  ·by_cases h1 : c < p.bs.length
   ·refine ⟨c,h1,?_⟩;unfold Pt.base; rw [hl,if_neg hlow,if_neg hlow]
   ·omega
 refine ⟨k.cs.trans h.cs,Nat.le_trans h.len k.len,fun b hb=>(k.par b (Nat.lt_of_lt_of_le hb h.len)).trans (h.par b hb),fun s hs=>(k.base s hs).trans (h.base s hs),fun b hb hlow=>?_⟩
 rcases k.low b hb (by rw [hl]; exact hlow) with h1 | ⟨c,h1,h2⟩
 ·rcases h.low b h1 hlow with h3 | ⟨c,h3,h4⟩
  ·exact .inl h3
  ·exact .inr ⟨c,h3,by rw [k.par b h1]; exact h4⟩
 ·obtain ⟨c',h3,h4⟩:=bb c h1;exact .inr ⟨c',h3,by rw [h2,h4]⟩
theorem rm {p : Pt} {N old : Nat} {r : List Nat} (hlow : p.low ≤ p.bs.length) (h : PI p N (old :: r)) :
  PI (p.splitOne old) N r ∧ (∀ s,s < N → ((p.splitOne old).M s ↔ p.M s ∧ gt p.bl s ≠ old)) ∧ (∀ s t,s < N → t < N → (gt (p.splitOne old).bl s = gt (p.splitOne old).bl t ↔ gt p.bl s = gt p.bl t ∧ (gt p.bl s = old → (p.M s ↔ p.M t)))) ∧ PH p (p.splitOne old) N:=by
 obtain ⟨b,hb⟩ : ∃ b,gb p.bs old = b:=⟨_,rfl⟩;have ho:=(h.tm old).1 (by simp);rw [hb] at ho;obtain ⟨hol,hm0⟩:=ho;have hbd:=h.bd old hol;rw [hb] at hbd;have hnd:=h.nd;rw [List.nodup_cons] at hnd
 have htm : ∀ c,c ∈ r ↔ (c < p.bs.length ∧ 0 < (gb p.bs c).marked) ∧ c ≠ old:=fun c=>by
  rw [← h.tm c,List.mem_cons]
  constructor
  ·intro hc;exact ⟨.inr hc,fun e=>hnd.1 (by rw [← e]; exact hc)⟩
  ·rintro ⟨h1 | h1,h2⟩
   ·exact (h2 h1).elim
   ·exact h1
 by_cases hall : b.marked = b.size
 ·
  have hp : p.splitOne old = { p with bs:=p.bs.set old ⟨b.first,b.size,0,b.parent⟩ }:=by simp only [Pt.splitOne,hb,if_pos hall]
  rw [hp];have g : ∀ c,gb (p.bs.set old ⟨b.first,b.size,0,b.parent⟩) c = if old = c then ⟨b.first,b.size,0,b.parent⟩ else gb p.bs c:=fun c=>by rw [qy]; simp only [hol,and_true]
  have gf : ∀ c,(gb (p.bs.set old ⟨b.first,b.size,0,b.parent⟩) c).first = (gb p.bs c).first ∧ (gb (p.bs.set old ⟨b.first,b.size,0,b.parent⟩) c).size = (gb p.bs c).size ∧ (gb (p.bs.set old ⟨b.first,b.size,0,b.parent⟩) c).parent = (gb p.bs c).parent:=fun c=>by
   rw [g]
   split
   ·rename_i e; subst e; rw [hb]; exact ⟨rfl,rfl,rfl⟩
   ·exact ⟨rfl,rfl,rfl⟩
  refine ⟨⟨h.st,h.pl,h.bl,h.sp,h.ps,fun s hs=>by simpa using h.ib s hs,fun s hs=>?_,fun c hc=>?_,fun c hc i h1 h2=>?_,fun c=>?_,hnd.2⟩,fun s hs=>?_,fun s t hs ht=>?_,⟨rfl,by simp,fun c hc=>(gf c).2.2,fun s hs=>?_,fun c hc _=>.inl (by simpa using hc)⟩⟩
  ·show (gb (p.bs.set old _) (gt p.bl s)).first ≤ gt p.pl s ∧ gt p.pl s < (gb (p.bs.set old _) (gt p.bl s)).first + (gb (p.bs.set old _) (gt p.bl s)).size;rw [(gf _).1,(gf _).2.1]; exact h.inn s hs
  ·show 0 < (gb (p.bs.set old _) c).size ∧ (gb (p.bs.set old _) c).marked ≤ (gb (p.bs.set old _) c).size ∧ (gb (p.bs.set old _) c).first + (gb (p.bs.set old _) c).size ≤ N;have hc' : c < p.bs.length:=by simpa using hc
   rw [g]
   split
   ·simp only; omega
   ·exact h.bd c hc'
  ·have hc' : c < p.bs.length:=by simpa using hc
   exact h.own c hc' i (by rw [← (gf c).1]; exact h1) (by rw [← (gf c).1,← (gf c).2.1]; exact h2)
  ·show c ∈ r ↔ c < (p.bs.set old _).length ∧ 0 < (gb (p.bs.set old _) c).marked;rw [htm,g,List.length_set]
   by_cases e : old = c
   ·subst e; simp
   ·rw [if_neg e];simp only [ne_eq,Ne.symm e,not_false_eq_true,and_true]
  ·show gt p.pl s < (gb (p.bs.set old _) (gt p.bl s)).first + (gb (p.bs.set old _) (gt p.bl s)).marked ↔ gt p.pl s < (gb p.bs (gt p.bl s)).first + (gb p.bs (gt p.bl s)).marked ∧ gt p.bl s ≠ old;rw [g]
   have:=h.inn s hs
   by_cases e : old = gt p.bl s
   ·rw [if_pos e];rw [← e,hb] at this;simp only [Nat.add_zero]
    constructor
    ·intro h1; omega
    ·intro h1; exact (h1.2 e.symm).elim
   ·rw [if_neg e];simp only [ne_eq,Ne.symm e,not_false_eq_true,and_true]
  ·show gt p.bl s = gt p.bl t ↔ _
   constructor
   ·intro e;refine ⟨e,fun e2=>?_⟩;have h1:=h.inn s hs;have h2:=h.inn t ht;unfold Pt.M;rw [← e] at h2 ⊢;rw [e2,hb] at h1 h2 ⊢
    constructor <;> intro _ <;> omega
   ·exact fun h=>h.1
  ·show (if p.low ≤ gt p.bl s then (gb (p.bs.set old _) (gt p.bl s)).parent else gt p.bl s) = p.base (gt p.bl s);rw [(gf _).2.2]; rfl
 ·
  obtain ⟨par,hpar⟩ : ∃ par,(if p.low ≤ old then b.parent else old) = par:=⟨_,rfl⟩;have hp : p.splitOne old = { p with bs:=p.bs.set old ⟨b.first + b.marked,b.size - b.marked,0,b.parent⟩ ++ [⟨b.first,b.marked,0,par⟩],bl:=dj p.st p.bs.length p.bl b.first b.marked }:=by simp only [Pt.splitOne,hb,if_neg hall,hpar]
  rw [hp]
  have g : ∀ c,gb (p.bs.set old ⟨b.first + b.marked,b.size - b.marked,0,b.parent⟩ ++ [⟨b.first,b.marked,0,par⟩]) c =
    if c < p.bs.length then (if old = c then ⟨b.first + b.marked,b.size - b.marked,0,b.parent⟩ else gb p.bs c) else if c = p.bs.length then ⟨b.first,b.marked,0,par⟩ else ⟨0,0,0,0⟩:=fun c=>by
   rw [gb_app,List.length_set,qy]; simp only [hol,and_true]
  have gpar : ∀ c,c < p.bs.length → (gb (p.bs.set old ⟨b.first + b.marked,b.size - b.marked,0,b.parent⟩ ++ [⟨b.first,b.marked,0,par⟩]) c).parent = (gb p.bs c).parent:=fun c hc=>by
   rw [g,if_pos hc]
   split
   ·rename_i e; subst e; rw [hb]
   ·rfl
  have gbl : ∀ t,t < N → gt (dj p.st p.bs.length p.bl b.first b.marked) t = if b.first ≤ gt p.pl t ∧ gt p.pl t < b.first + b.marked then p.bs.length else gt p.bl t:=
   r8 p.bs.length h.sp h.ps b.marked b.first p.bl h.bl (by omega)
  have inold : ∀ t,t < N → b.first ≤ gt p.pl t ∧ gt p.pl t < b.first + b.size → gt p.bl t = old:=fun t ht hr=>by
   have:=h.own old hol (gt p.pl t) (by rw [hb]; exact hr.1) (by rw [hb]; exact hr.2)
   rw [(h.ps t ht).2] at this; exact this
  have oldin : ∀ t,t < N → gt p.bl t = old → b.first ≤ gt p.pl t ∧ gt p.pl t < b.first + b.size:=fun t ht e=>by
   have:=h.inn t ht
   rw [e,hb] at this; exact this
  have hpk : (⟨b.first,b.size,b.marked,b.parent⟩ : Blk) = b:=rfl
  have cases3 : ∀ t,t < N → (gt p.bl t = old ∧ p.M t ∧ (b.first ≤ gt p.pl t ∧ gt p.pl t < b.first + b.marked) ∧ gt (dj p.st p.bs.length p.bl b.first b.marked) t = p.bs.length) ∨
    (gt p.bl t = old ∧ ¬ p.M t ∧ (b.first + b.marked ≤ gt p.pl t ∧ gt p.pl t < b.first + b.size) ∧ gt (dj p.st p.bs.length p.bl b.first b.marked) t = old) ∨
    (gt p.bl t ≠ old ∧ gt (dj p.st p.bs.length p.bl b.first b.marked) t = gt p.bl t):=fun t ht=>by
   by_cases e : gt p.bl t = old
   ·have h1:=oldin t ht e;have hM : p.M t ↔ gt p.pl t < b.first + b.marked:=by unfold Pt.M; rw [e,hb]
    rw [gbl t ht]
    by_cases h2 : gt p.pl t < b.first + b.marked
    ·exact .inl ⟨e,hM.2 h2,⟨h1.1,h2⟩,if_pos ⟨h1.1,h2⟩⟩
    ·exact .inr (.inl ⟨e,fun h=>h2 (hM.1 h),⟨by omega,h1.2⟩,by rw [if_neg (fun h=>h2 h.2)]; exact e⟩)
   ·refine .inr (.inr ⟨e,?_⟩);rw [gbl t ht,if_neg (fun h3=>e (inold t ht ⟨h3.1,by omega⟩))]
  refine ⟨⟨h.st,h.pl,?_,h.sp,h.ps,fun s hs=>?_,fun s hs=>?_,fun c hc=>?_,fun c hc i h1 h2=>?_,fun c=>?_,hnd.2⟩,fun s hs=>?_,fun s t hs ht=>?_,⟨rfl,by simp,gpar,fun s hs=>?_,fun c hc hlc=>?_⟩⟩
  ·show (dj _ _ _ _ _).length = N;rw [nu]; exact h.bl
  ·show gt (dj p.st p.bs.length p.bl b.first b.marked) s < (p.bs.set old _ ++ [_]).length;simp only [List.length_append,List.length_set,List.length_cons,List.length_nil]
   have:=h.ib s hs
   rcases cases3 s hs with ⟨_,_,_,e⟩ | ⟨_,_,_,e⟩ | ⟨_,e⟩ <;> rw [e] <;> omega
  ·show (gb (p.bs.set old _ ++ [_]) (gt (dj p.st p.bs.length p.bl b.first b.marked) s)).first ≤ gt p.pl s ∧ gt p.pl s < (gb (p.bs.set old _ ++ [_]) (gt (dj p.st p.bs.length p.bl b.first b.marked) s)).first + (gb (p.bs.set old _ ++ [_]) (gt (dj p.st p.bs.length p.bl b.first b.marked) s)).size;have hib:=h.ib s hs
   rcases cases3 s hs with ⟨_,_,hr,e⟩ | ⟨_,_,hr,e⟩ | ⟨hn,e⟩
   ·rw [e,g,if_neg (by omega),if_pos rfl]; exact hr
   ·rw [e,g,if_pos hol,if_pos rfl]; simp only; omega
   ·rw [e,g,if_pos hib,if_neg (Ne.symm hn)]; exact h.inn s hs
  ·show 0 < (gb (p.bs.set old _ ++ [_]) c).size ∧ (gb (p.bs.set old _ ++ [_]) c).marked ≤ (gb (p.bs.set old _ ++ [_]) c).size ∧ (gb (p.bs.set old _ ++ [_]) c).first + (gb (p.bs.set old _ ++ [_]) c).size ≤ N;have hc : c < p.bs.length + 1:=by simpa using hc
   rw [g]
   split
   ·split
    ·simp only; omega
    ·exact h.bd c (by assumption)
   ·rw [if_pos (by omega)]; simp only; omega
  ·show gt (dj p.st p.bs.length p.bl b.first b.marked) (gt p.st i) = c;replace hc : c < p.bs.length + 1:=by simpa using hc
   replace h1 : (gb (p.bs.set old _ ++ [_]) c).first ≤ i:=h1;replace h2 : i < (gb (p.bs.set old _ ++ [_]) c).first + (gb (p.bs.set old _ ++ [_]) c).size:=h2;rw [g] at h1 h2
   split at h1
   ·rename_i hcl;rw [if_pos hcl] at h2
    split at h1
    ·rename_i e;rw [if_pos e] at h2;simp only at h1 h2;have hs:=h.sp i (by omega);rw [gbl _ hs.1,hs.2,if_neg (by omega)];rw [← e];exact h.own old hol i (by rw [hb]; omega) (by rw [hb]; omega)
    ·rename_i e;rw [if_neg e] at h2;have hcb:=h.bd c hcl;have hs:=h.sp i (by omega);have hoc:=h.own c hcl i h1 h2;rw [gbl _ hs.1,hs.2,if_neg,hoc];intro h3
     have:=inold _ hs.1 (by rw [hs.2]; omega)
     rw [hoc] at this;exact e this.symm
   ·rename_i hcl;have e : c = p.bs.length:=by omega
    rw [if_neg hcl,if_pos e] at h2;rw [if_pos e] at h1;simp only at h1 h2;have hs:=h.sp i (by omega);rw [gbl _ hs.1,hs.2,if_pos ⟨h1,h2⟩,e]
  ·show c ∈ r ↔ c < (p.bs.set old _ ++ [_]).length ∧ 0 < (gb (p.bs.set old _ ++ [_]) c).marked;rw [htm,g];simp only [List.length_append,List.length_set,List.length_cons,List.length_nil]
   by_cases e1 : c < p.bs.length
   ·rw [if_pos e1]
    by_cases e : old = c
    ·subst e; simp
    ·rw [if_neg e];have : c ≠ old:=Ne.symm e
     constructor
     ·rintro ⟨⟨_,h2⟩,_⟩; exact ⟨by omega,h2⟩
     ·rintro ⟨_,h2⟩; exact ⟨⟨e1,h2⟩,this⟩
   ·rw [if_neg e1]
    constructor
    ·rintro ⟨⟨h2,_⟩,_⟩; exact (e1 h2).elim
    ·rintro ⟨_,h2⟩
     split at h2
     ·simp at h2
     ·simp at h2
  ·show gt p.pl s < (gb (p.bs.set old _ ++ [_]) (gt (dj p.st p.bs.length p.bl b.first b.marked) s)).first + (gb (p.bs.set old _ ++ [_]) (gt (dj p.st p.bs.length p.bl b.first b.marked) s)).marked ↔ p.M s ∧ gt p.bl s ≠ old;have hib:=h.ib s hs
   rcases cases3 s hs with ⟨ho,_,hr,e⟩ | ⟨ho,_,hr,e⟩ | ⟨hn,e⟩
   ·rw [e,g,if_neg (by omega),if_pos rfl];simp only [Nat.add_zero]
    constructor
    ·intro h1; omega
    ·intro h1; exact (h1.2 ho).elim
   ·rw [e,g,if_pos hol,if_pos rfl];simp only [Nat.add_zero]
    constructor
    ·intro h1; omega
    ·intro h1; exact (h1.2 ho).elim
   ·rw [e,g,if_pos hib,if_neg (Ne.symm hn)];exact ⟨fun h=>⟨h,hn⟩,fun h=>h.1⟩
  ·show gt (dj p.st p.bs.length p.bl b.first b.marked) s = gt (dj p.st p.bs.length p.bl b.first b.marked) t ↔ _;have h1:=h.ib s hs;have h2:=h.ib t ht
   rcases cases3 s hs with ⟨ho,hm,_,e⟩ | ⟨ho,hm,_,e⟩ | ⟨hn,e⟩ <;> rcases cases3 t ht with ⟨ho',hm',_,e'⟩ | ⟨ho',hm',_,e'⟩ | ⟨hn',e'⟩ <;> rw [e,e']
   ·exact ⟨fun _=>⟨ho.trans ho'.symm,fun _=>⟨fun _=>hm',fun _=>hm⟩⟩,fun _=>rfl⟩
   ·exact ⟨fun h3=>by omega,fun h3=>(hm' ((h3.2 ho).1 hm)).elim⟩
   ·exact ⟨fun h3=>by omega,fun h3=>(hn' (h3.1.symm.trans ho)).elim⟩
   ·exact ⟨fun h3=>by omega,fun h3=>(hm ((h3.2 ho).2 hm')).elim⟩
   ·exact ⟨fun _=>⟨ho.trans ho'.symm,fun _=>⟨fun h=>(hm h).elim,fun h=>(hm' h).elim⟩⟩,fun _=>rfl⟩
   ·exact ⟨fun h3=>(hn' h3.symm).elim,fun h3=>(hn' (h3.1.symm.trans ho)).elim⟩
   ·exact ⟨fun h3=>by omega,fun h3=>(hn (h3.1.trans ho')).elim⟩
   ·exact ⟨fun h3=>(hn h3).elim,fun h3=>(hn (h3.1.trans ho')).elim⟩
   ·exact ⟨fun h3=>⟨h3,fun h4=>(hn h4).elim⟩,fun h3=>h3.1⟩
  ·show (if p.low ≤ gt (dj p.st p.bs.length p.bl b.first b.marked) s then (gb (p.bs.set old _ ++ [_]) (gt (dj p.st p.bs.length p.bl b.first b.marked) s)).parent else gt (dj p.st p.bs.length p.bl b.first b.marked) s) = p.base (gt p.bl s);have hib:=h.ib s hs
   rcases cases3 s hs with ⟨ho,_,hr,e⟩ | ⟨ho,_,hr,e⟩ | ⟨hn,e⟩
   ·rw [e,if_pos hlow,g,if_neg (by omega),if_pos rfl,ho];show par = p.base old;rw [← hpar]; unfold Pt.base; rw [hb]
   ·rw [e,ho,gpar old hol]; rfl
   ·rw [e,gpar _ hib]; rfl
  ·have hc : c < p.bs.length + 1:=by simpa using hc
   by_cases e : c < p.bs.length
   ·exact .inl e
   ·refine .inr ⟨old,hol,?_⟩;show (gb (p.bs.set old _ ++ [_]) c).parent = _;rw [g,if_neg e,if_pos (by omega)];show par = _;rw [← hpar]; unfold Pt.base; rw [hb]
theorem agr {N : Nat} : ∀ (todo : List Nat) (p : Pt),p.low ≤ p.bs.length → PI p N todo → PI (todo.foldl Pt.splitOne p) N [] ∧
  (∀ s t,s < N → t < N → (gt (todo.foldl Pt.splitOne p).bl s = gt (todo.foldl Pt.splitOne p).bl t ↔ gt p.bl s = gt p.bl t ∧ (p.M s ↔ p.M t))) ∧ PH p (todo.foldl Pt.splitOne p) N
 | [],p,_,h=>by
   have hM : ∀ s,s < N → ¬ p.M s:=fun s hs hm=>by
    have h1:=h.ib s hs;have h2:=(h.tm (gt p.bl s));have h3:=h.inn s hs;unfold Pt.M at hm
    have:=h2.2 ⟨h1,by omega⟩
    cases this
   exact ⟨h,fun s t hs ht=>⟨fun e=>⟨e,fun h=>(hM s hs h).elim,fun h=>(hM t ht h).elim⟩,fun e=>e.1⟩,PH.refl _ _⟩
 | old :: r,p,hl,h=>by
   obtain ⟨h1,h2,h3,h4⟩:=rm hl h
   have hl' : (p.splitOne old).low ≤ (p.splitOne old).bs.length:=by
    have : (p.splitOne old).low = p.low:=by unfold Pt.low; rw [h4.cs]
    rw [this]; exact Nat.le_trans hl h4.len
   obtain ⟨k1,k2,k3⟩:=agr r (p.splitOne old) hl' h1;refine ⟨k1,fun s t hs ht=>?_,h4.trans hl k3⟩;rw [List.foldl_cons,k2 s t hs ht,h3 s t hs ht,h2 s hs,h2 t ht]
   constructor
   ·rintro ⟨⟨e,e2⟩,e3⟩;refine ⟨e,?_⟩
    by_cases ho : gt p.bl s = old
    ·exact e2 ho
    ·have ho' : gt p.bl t ≠ old:=fun h=>ho (e.trans h);exact ⟨fun h=>(e3.1 ⟨h,ho⟩).1,fun h=>(e3.2 ⟨h,ho'⟩).1⟩
   ·rintro ⟨e,e3⟩;refine ⟨⟨e,fun _=>e3⟩,?_⟩;rw [e3,e]
theorem PI.ml {p : Pt} {N : Nat} {todo ml : List Nat} (h : PI p N todo) : PI { p with ml:=ml } N todo:=⟨h.st,h.pl,h.bl,h.sp,h.ps,h.ib,h.inn,h.bd,h.own,h.tm,h.nd⟩
theorem aif {p : Pt} {N : Nat} (hl : p.low ≤ p.bs.length) (h : PI p N p.ml) : PI p.split N p.split.ml ∧ (∀ s t,s < N → t < N → (gt p.split.bl s = gt p.split.bl t ↔ gt p.bl s = gt p.bl t ∧ (p.M s ↔ p.M t))) ∧ PH p p.split N ∧ p.split.ml = []:=by
 obtain ⟨h1,h2,h3⟩:=agr p.ml p hl h;exact ⟨h1.ml,h2,⟨h3.cs,h3.len,h3.par,h3.base,h3.low⟩,rfl⟩
theorem ah8 {p : Pt} {N : Nat} (h : PI p N []) (s : Nat) (hs : s < N) : ¬ p.M s:=fun hm=>by
 have h1:=h.ib s hs;have h3:=h.inn s hs;unfold Pt.M at hm
 have:=(h.tm (gt p.bl s)).2 ⟨h1,by omega⟩
 cases this
end
section
structure Mk (p0 p : Pt) (N : Nat) (X : Nat → Prop) : Prop where
 pi : PI p N p.ml
 bl : p.bl = p0.bl
 cs : p.cs = p0.cs
 len : p.bs.length = p0.bs.length
 fs : ∀ b,(gb p.bs b).first = (gb p0.bs b).first ∧ (gb p.bs b).size = (gb p0.bs b).size ∧ (gb p.bs b).parent = (gb p0.bs b).parent
 m : ∀ s,s < N → (p.M s ↔ X s)
theorem Mk.start {p : Pt} {N : Nat} (h : PI p N p.ml) (h0 : p.ml = []) : Mk p p N (fun _=>False):=
 ⟨h,rfl,rfl,rfl,fun _=>⟨rfl,rfl,rfl⟩,fun s hs=>⟨fun hm=>ah8 (by rw [h0] at h; exact h) s hs hm,False.elim⟩⟩
theorem Mk.step {p0 p : Pt} {N : Nat} {X : Nat → Prop} (h : Mk p0 p N X) {s : Nat} (hs : s < N) (hx : ¬ X s) : Mk p0 (p.mark s) N (fun t=>X t ∨ t = s):=by
 obtain ⟨h1,h2⟩:=mark_ok h.pi hs (fun hm=>hx ((h.m s hs).1 hm));refine ⟨h1,h.bl,h.cs,by simpa [Pt.mark] using h.len,fun b=>?_,fun t ht=>by rw [h2 t ht,h.m t ht]⟩
 have:=h.fs b
 simp only [Pt.mark];rw [qy]
 split
 ·rename_i e;rw [← e.1] at this ⊢;exact this
 ·exact this
theorem Mk.imp {p0 p : Pt} {N : Nat} {X Y : Nat → Prop} (h : Mk p0 p N X) (hxy : ∀ s,s < N → (X s ↔ Y s)) : Mk p0 p N Y:=⟨h.pi,h.bl,h.cs,h.len,h.fs,fun s hs=>(h.m s hs).trans (hxy s hs)⟩
theorem Mk.ph {p0 p : Pt} {N : Nat} {X : Nat → Prop} (h : Mk p0 p N X) : PH p0 p N:=by
 have hl : p.low = p0.low:=by unfold Pt.low; rw [h.cs]
 exact ⟨h.cs,Nat.le_of_eq h.len.symm,fun b _=>(h.fs b).2.2,fun s _=>by unfold Pt.base; rw [hl,(h.fs _).2.2,h.bl],fun b hb _=>.inl (by rw [← h.len]; exact hb)⟩
theorem Mk.split {p0 p : Pt} {N : Nat} {X : Nat → Prop} (hl : p0.low ≤ p0.bs.length) (h : Mk p0 p N X) : PI p.split N p.split.ml ∧ p.split.ml = [] ∧ PH p0 p.split N ∧
  ∀ s t,s < N → t < N → (gt p.split.bl s = gt p.split.bl t ↔ gt p0.bl s = gt p0.bl t ∧ (X s ↔ X t)):=by
 have hl' : p.low ≤ p.bs.length:=by
  have : p.low = p0.low:=by unfold Pt.low; rw [h.cs]
  rw [this,h.len]; exact hl
 obtain ⟨h1,h2,h3,h4⟩:=aif hl' h.pi;exact ⟨h1,h4,h.ph.trans hl h3,fun s t hs ht=>by rw [h2 s t hs ht,h.bl,h.m s hs,h.m t ht]⟩
section
variable (N L : Nat) (dl : Nat → Nat → Nat) (en : Nat → Bool)
def rnG (s : Nat) (w : List Nat) : Nat:=w.foldl dl s
def EqG (k s t : Nat) : Prop:=∀ w,Word L w → w.length < k → en (rnG dl s w) = en (rnG dl t w)
end
section
variable {N L : Nat} {dl : Nat → Nat → Nat} {en : Nat → Bool}
theorem EqG.zero (s t : Nat) : EqG L dl en 0 s t:=fun _ _ h=>by omega
theorem EqG.mono {j k s t : Nat} (h : EqG L dl en k s t) (hj : j ≤ k) : EqG L dl en j s t:=fun w hw hl=>h w hw (by omega)
theorem EqG.one {s t : Nat} : EqG L dl en 1 s t ↔ en s = en t:=
 ⟨fun h=>h [] (Word.nil _) (by simp),fun h w _ hl=>by
  have : w = []:=by cases w with
   | nil=>rfl
   | cons c r=>simp at hl
  subst this; exact h⟩
theorem EqG.succ {k s t : Nat} : EqG L dl en (k + 1) s t ↔ en s = en t ∧ ∀ c,c < L → EqG L dl en k (dl s c) (dl t c):=
 ⟨fun h=>⟨EqG.one.1 (h.mono (by omega)),fun c hc w hw hl=>h (c :: w) (Word.cons hc hw) (by simpa using hl)⟩,fun h w hw hl=>by
  cases w with
  | nil=>exact h.1
  | cons c w=>exact h.2 c hw.head w hw.tail (by simpa using hl)⟩
theorem EqG.stable {k : Nat} (hdl : ∀ s c,s < N → c < L → dl s c < N) (h : ∀ s t,s < N → t < N → EqG L dl en k s t → EqG L dl en (k + 1) s t) :
  ∀ j s t,s < N → t < N → EqG L dl en k s t → EqG L dl en (k + j) s t
 | 0,s,t,hs,ht,e=>e
 | j + 1,s,t,hs,ht,e=>by
   have h1:=EqG.succ.1 (h s t hs ht e);show EqG L dl en (k + j + 1) s t;exact EqG.succ.2 ⟨h1.1,fun c hc=>EqG.stable hdl h j _ _ (hdl s c hs hc) (hdl t c ht hc) (h1.2 c hc)⟩
end
def upB (bs : List Blk) (c b : Nat) : Nat:=if c ≤ b then (gb bs b).parent else b
structure Lev (L : Nat) (dl : Nat → Nat → Nat) (en : Nat → Bool) (p : Pt) (N : Nat) (lev : Nat → Nat → Nat) (R : Nat) : Prop where
 cs : p.cs.length = R + 1
 mono : ∀ r,r < R → gt p.cs r ≤ gt p.cs (r + 1)
 top : gt p.cs R ≤ p.bs.length
 lt : ∀ r,r ≤ R → ∀ s,s < N → lev r s < gt p.cs r
 dn : ∀ r,r < R → ∀ s,s < N → lev r s = upB p.bs (gt p.cs r) (lev (r + 1) s)
 par : ∀ r,r < R → ∀ b,gt p.cs r ≤ b → b < gt p.cs (r + 1) → (gb p.bs b).parent < gt p.cs r
 parT : ∀ b,gt p.cs R ≤ b → b < p.bs.length → (gb p.bs b).parent < gt p.cs R
 cur : ∀ s,s < N → upB p.bs (gt p.cs R) (gt p.bl s) = lev R s
 sem : ∀ r,r ≤ R → ∀ s t,s < N → t < N → (lev r s = lev r t ↔ EqG L dl en r s t)
section
variable {N L R : Nat} {dl : Nat → Nat → Nat} {en : Nat → Bool} {p q : Pt} {lev : Nat → Nat → Nat}
theorem Lev.low (h : Lev L dl en p N lev R) : p.low = gt p.cs R:=by unfold Pt.low; rw [h.cs]; rfl
theorem Lev.lowLe (h : Lev L dl en p N lev R) : p.low ≤ p.bs.length:=by rw [h.low]; exact h.top
theorem Lev.monoLe (h : Lev L dl en p N lev R) : ∀ j r,r + j ≤ R → gt p.cs r ≤ gt p.cs (r + j)
 | 0,r,_=>Nat.le_refl _
 | j + 1,r,hr=>Nat.le_trans (h.monoLe j r (by omega)) (h.mono (r + j) (by omega))
theorem Lev.csLe (h : Lev L dl en p N lev R) {r : Nat} (hr : r ≤ R) : gt p.cs r ≤ p.bs.length:=by
 have:=h.monoLe (R - r) r (by omega)
 rw [show r + (R - r) = R by omega] at this;exact Nat.le_trans this h.top
theorem Lev.keep (h : Lev L dl en p N lev R) (k : PH p q N) : Lev L dl en q N lev R:=by
 have hl : q.low = p.low:=by unfold Pt.low; rw [k.cs]
 have hlow:=h.low;have up : ∀ c b,b < p.bs.length → upB q.bs c b = upB p.bs c b:=fun c b hb=>by unfold upB; rw [k.par b hb]
 refine ⟨by rw [k.cs]; exact h.cs,by rw [k.cs]; exact h.mono,by rw [k.cs]; exact Nat.le_trans h.top k.len,by rw [k.cs]; exact h.lt,fun r hr s hs=>?_,fun r hr b h1 h2=>?_,fun b h1 h2=>?_,fun s hs=>?_,h.sem⟩
 ·rw [k.cs,up _ _ (Nat.lt_of_lt_of_le (h.lt (r + 1) (by omega) s hs) (h.csLe (by omega)))];exact h.dn r hr s hs
 ·rw [k.cs] at h1 h2 ⊢;rw [k.par b (Nat.lt_of_lt_of_le h2 (h.csLe (by omega)))];exact h.par r hr b h1 h2
 ·rw [k.cs] at h1 ⊢
  have hb : ∀ c,c < p.bs.length → p.base c < gt p.cs R:=fun c hc=>by
   unfold Pt.base;rw [hlow]
   split
   ·rename_i e; exact h.parT c e hc
   ·omega
  rcases k.low b h2 (by rw [hlow]; exact h1) with h3 | ⟨c,h3,h4⟩
  ·rw [k.par b h3]; exact h.parT b h1 h3
  ·rw [h4]; exact hb c h3
 ·have e1 : upB q.bs (gt q.cs R) (gt q.bl s) = q.base (gt q.bl s):=by unfold Pt.base upB; rw [hl,hlow,k.cs]
  have e2 : upB p.bs (gt p.cs R) (gt p.bl s) = p.base (gt p.bl s):=by unfold Pt.base upB; rw [hlow]
  rw [e1,k.base s hs,← e2]; exact h.cur s hs
def Pt.endR (p : Pt) : Pt:={ p with cs:=p.cs ++ [p.bs.length] }
theorem ago {l : List Nat} {v r : Nat} (h : r < l.length) : gt (l ++ [v]) r = gt l r:=by rw [su,if_pos h]
theorem ace {l : List Nat} {v : Nat} : gt (l ++ [v]) l.length = v:=by rw [su,if_neg (by omega)]; simp
theorem Lev.endR (h : Lev L dl en p N lev R) (hib : ∀ s,s < N → gt p.bl s < p.bs.length) (hsem : ∀ s t,s < N → t < N → (gt p.bl s = gt p.bl t ↔ EqG L dl en (R + 1) s t)) :
  Lev L dl en p.endR N (fun r s=>if r ≤ R then lev r s else gt p.bl s) (R + 1) ∧ gt p.endR.cs (R + 1) = p.bs.length ∧ gt p.endR.cs R = gt p.cs R:=by
 have hc:=h.cs;have g1 : ∀ r,r ≤ R → gt p.endR.cs r = gt p.cs r:=fun r hr=>ago (by omega)
 have g2 : gt p.endR.cs (R + 1) = p.bs.length:=by
  show gt (p.cs ++ [p.bs.length]) (R + 1) = _;rw [← hc]; exact ace
 refine ⟨⟨by simp [Pt.endR,hc],fun r hr=>?_,by rw [g2]; exact Nat.le_refl _,fun r hr s hs=>?_,fun r hr s hs=>?_,fun r hr b h1 h2=>?_,fun b h1 h2=>?_,fun s hs=>?_,fun r hr s t hs' ht'=>?_⟩,g2,g1 R (Nat.le_refl _)⟩
 ·rw [g1 r (by omega)]
  by_cases e : r = R
  ·subst e; rw [g2]; exact h.top
  ·rw [g1 (r + 1) (by omega)]; exact h.mono r (by omega)
 ·by_cases e : r ≤ R
  ·simp only [if_pos e]; rw [g1 r e]; exact h.lt r e s hs
  ·simp only [if_neg e];rw [show r = R + 1 by omega,g2]; exact hib s hs
 ·have e0 : r ≤ R:=by omega
  simp only [if_pos e0];rw [g1 r e0]
  by_cases e : r = R
  ·subst e;rw [if_neg (by omega)];exact (h.cur s hs).symm
  ·rw [if_pos (by omega)];exact h.dn r (by omega) s hs
 ·rw [g1 r (by omega)] at h1 ⊢
  by_cases e : r = R
  ·subst e;rw [g2] at h2;exact h.parT b h1 h2
  ·rw [g1 (r + 1) (by omega)] at h2;exact h.par r (by omega) b h1 h2
 ·rw [g2] at h1;have h2 : b < p.bs.length:=h2;omega
 ·rw [g2];simp only [if_neg (show ¬ R + 1 ≤ R by omega)];unfold upB;exact if_neg (Nat.not_le.2 (hib s hs))
 ·by_cases e : r ≤ R
  ·simp only [if_pos e]; exact h.sem r e s t hs' ht'
  ·simp only [if_neg e];rw [show r = R + 1 by omega]; exact hsem s t hs' ht'
def aj6 (p : Pt) (R : Nat) (B : List Nat) : Prop:=∀ x y,x < gt p.cs R → y < gt p.cs R → x ≠ y → upB p.bs (gt p.cs (R - 1)) x = upB p.bs (gt p.cs (R - 1)) y → x ∈ B ∨ y ∈ B
theorem afi {B : List Nat} (hdl : ∀ s c,s < N → c < L → dl s c < N) (h : Lev L dl en p N lev R) (hR : 0 < R) (hB : aj6 p R B) {s t : Nat} (hs : s < N) (ht : t < N) :
  (lev R s = lev R t ∧ ∀ b ∈ B,∀ c,c < L → (lev R (dl s c) = b ↔ lev R (dl t c) = b)) ↔ EqG L dl en (R + 1) s t:=by
 constructor
 ·rintro ⟨h1,h2⟩;have e1:=(h.sem R (Nat.le_refl _) s t hs ht).1 h1;refine EqG.succ.2 ⟨EqG.one.1 (e1.mono (by omega)),fun c hc=>?_⟩;have hs':=hdl s c hs hc;have ht':=hdl t c ht hc;refine (h.sem R (Nat.le_refl _) _ _ hs' ht').1 ?_;refine Decidable.byContradiction fun hne=>?_;obtain ⟨k,rfl⟩ : ∃ k,R = k + 1:=⟨R - 1,by omega⟩;have e2:=(h.sem k (by omega) _ _ hs' ht').2 ((EqG.succ.1 e1).2 c hc);rw [h.dn k (by omega) _ hs',h.dn k (by omega) _ ht'] at e2
  rcases hB _ _ (h.lt _ (Nat.le_refl _) _ hs') (h.lt _ (Nat.le_refl _) _ ht') hne e2 with hb | hb
  ·exact hne ((h2 _ hb c hc).1 rfl).symm
  ·exact hne ((h2 _ hb c hc).2 rfl)
 ·intro e;refine ⟨(h.sem R (Nat.le_refl _) s t hs ht).2 (e.mono (by omega)),fun b _ c hc=>?_⟩
  have:=(h.sem R (Nat.le_refl _) _ _ (hdl s c hs hc) (hdl t c ht hc)).2 ((EqG.succ.1 e).2 c hc)
  rw [this]
theorem Lev.still (h : Lev L dl en p N lev (R + 1)) (hdl : ∀ s c,s < N → c < L → dl s c < N) (he : gt p.cs (R + 1) = gt p.cs R) {s t : Nat} (hs : s < N) (ht : t < N) :
  lev (R + 1) s = lev (R + 1) t ↔ ∀ w,Word L w → en (rnG dl s w) = en (rnG dl t w):=by
 have same : ∀ s,s < N → lev R s = lev (R + 1) s:=fun s hs=>by
  have h1:=h.dn R (by omega) s hs;have h2:=h.lt (R + 1) (Nat.le_refl _) s hs;unfold upB at h1;rw [if_neg (by omega)] at h1;exact h1
 have st : ∀ s t,s < N → t < N → EqG L dl en R s t → EqG L dl en (R + 1) s t:=fun s t hs ht e=>by
  rw [← h.sem _ (by omega) s t hs ht,same s hs,same t ht] at e;exact (h.sem _ (Nat.le_refl _) s t hs ht).1 e
 constructor
 ·intro e w hw;have e1:=(h.sem R (by omega) s t hs ht).1 (by rw [same s hs,same t ht]; exact e);exact EqG.stable hdl st (w.length + 1) s t hs ht e1 w hw (by omega)
 ·intro e;exact (h.sem _ (Nat.le_refl _) s t hs ht).2 fun w hw _=>e w hw
theorem Lev.start (hp : p.cs = [1]) (hb : p.bs.length = 1) (hbl : ∀ s,s < N → gt p.bl s = 0) : Lev L dl en p N (fun _ _=>0) 0:=
 ⟨by rw [hp]; rfl,fun r hr=>by omega,by rw [hp,hb]; exact Nat.le_refl _,fun r hr s hs=>by rw [show r = 0 by omega,hp]; exact Nat.zero_lt_one,fun r hr=>by omega,fun r hr=>by omega,
  fun b h1 h2=>by rw [hp] at h1; have : 1 ≤ b:=h1; omega,fun s hs=>by
   unfold upB;rw [hbl s hs,hp,if_neg (by decide)],fun r hr s t _ _=>by
   rw [show r = 0 by omega];exact ⟨fun _=>EqG.zero _ _,fun _=>rfl⟩⟩
theorem PI.few {todo : List Nat} (h : PI p N todo) : p.bs.length ≤ N:=by
 have inj : ∀ b c,b < p.bs.length → c < p.bs.length → gt p.st (gb p.bs b).first = gt p.st (gb p.bs c).first → b = c:=fun b c hb hc e=>by
  have h1:=h.own b hb (gb p.bs b).first (Nat.le_refl _) (by have:=h.bd b hb; omega);have h2:=h.own c hc (gb p.bs c).first (Nat.le_refl _) (by have:=h.bd c hc; omega);rw [← h1,e,h2]
 have hn : ((List.range p.bs.length).map fun b=>gt p.st (gb p.bs b).first).Nodup:=by
  rw [List.nodup_iff_pairwise_ne,List.pairwise_map];refine List.Pairwise.imp_of_mem ?_ (List.nodup_iff_pairwise_ne.1 List.nodup_range);intro a b ha hb hab e;exact hab (inj a b (List.mem_range.1 ha) (List.mem_range.1 hb) e)
 have hsub : ((List.range p.bs.length).map fun b=>gt p.st (gb p.bs b).first) ⊆ List.range N:=fun x hx=>by
  obtain ⟨b,hb,rfl⟩:=List.mem_map.1 hx;have hb:=List.mem_range.1 hb
  have:=h.bd b hb
  exact List.mem_range.2 (h.sp _ (by omega)).1
 have:=hn.length_le_of_subset hsub
 simpa using this
theorem Lev.back (h : Lev L dl en p N lev R) {r s : Nat} (hs : s < N) : ∀ (k q : Nat),q = r + k → q ≤ R → gt p.cs r ≤ lev q s → ∃ q',r ≤ q' ∧ q' < q ∧ (gb p.bs (lev q s)).parent = lev q' s
 | 0,q,e,hq,hc=>by
   have:=h.lt q hq s hs
   have e : q = r:=by omega
   rw [e] at this hc; omega
 | k + 1,q,e,hq,hc=>by
   have hd:=h.dn (r + k) (by omega) s hs;rw [show r + k + 1 = q by omega] at hd;unfold upB at hd
   split at hd
   ·exact ⟨r + k,by omega,by omega,hd.symm⟩
   ·obtain ⟨q',h1,h2,h3⟩:=h.back hs k (r + k) rfl (by omega) (by rw [hd]; exact hc);exact ⟨q',h1,by omega,by rw [← hd]; exact h3⟩
theorem Lev.there (h : Lev L dl en p N lev R) {r s : Nat} (hs : s < N) : ∀ (k q : Nat),q = r + k → q ≤ R → lev q s < gt p.cs r → lev q s = lev r s
 | 0,q,e,_,_=>by rw [show q = r by omega]
 | k + 1,q,e,hq,hc=>by
   have hd:=h.dn (r + k) (by omega) s hs;rw [show r + k + 1 = q by omega] at hd;have hm:=h.monoLe k r (by omega);unfold upB at hd;rw [if_neg (by omega)] at hd;rw [← hd];exact h.there hs k (r + k) rfl (by omega) (by rw [hd]; exact hc)
end
end
section
open Go Sym
abbrev nats (l : List Nat) : List Value:=l.map fun (n : Nat)=>Vi n
abbrev n32s (l : List Nat) : List Value:=l.map fun (n : Nat)=>.int .i32 (n : Int)
abbrev oN (v : Value) (l : List Nat) : Ow:=⟨v,3,1,l.length,nats l⟩
abbrev oS (v : Value) (l : List Nat) : Ow:=⟨v,21,1,l.length,n32s l⟩
abbrev oX (T b k : Nat) (vs : List Value) : Ow:=⟨Vs b 1 1,T,k,1,vs⟩
def dt (l : List Blk) : List Value:=l.flatMap fun b=>[Vi b.first,Vi b.size,Vi b.marked,Vi b.parent]
abbrev oK (v : Value) (l : List Blk) : Ow:=⟨v,102,4,l.length,dt l⟩
structure Hold (base : Nat) (w0 w : World) (l : List Ow) : Prop where
 r : Rows base w l
 b : RowKit.Below base w0 w
 s : base ≤ w.heap.size
theorem ab4 (l : List Nat) {j : Nat} (hj : j < l.length) : (nats l)[j]? = some (Vi (gt l j : Int)):=by
 simp [gt,List.getD_eq_getElem?_getD,hj]
theorem aiz (l : List Nat) {j : Nat} (hj : j < l.length) : (n32s l)[j]? = some (.int .i32 (gt l j : Int)):=by
 simp [gt,List.getD_eq_getElem?_getD,hj]
theorem aiw (l : List Nat) (j x : Nat) : (nats l).set j (Vi x) = nats (l.set j x):=by simp [nats,List.map_set]
theorem aiy (l : List Nat) (j x : Nat) : (n32s l).set j (.int .i32 (x : Int)) = n32s (l.set j x):=by simp [n32s,List.map_set]
theorem ti : ∀ (l : List Blk) (j : Nat),j < l.length → (dt l)[j * 4]? = some (Vi ((gb l j).first : Int)) ∧ (dt l)[j * 4 + 1]? = some (Vi ((gb l j).size : Int)) ∧ (dt l)[j * 4 + 2]? = some (Vi ((gb l j).marked : Int)) ∧ (dt l)[j * 4 + 3]? = some (Vi ((gb l j).parent : Int))
 | [],j,h=>by simp at h
 | b :: r,0,_=>⟨rfl,rfl,rfl,rfl⟩
 | b :: r,j + 1,h=>by
   have:=ti r j (by simpa using h)
   rw [show (j + 1) * 4 = j * 4 + 4 by omega]
   simpa [dt,gb] using this
theorem blk_app (l : List Blk) (b : Blk) : dt l ++ [Vi b.first,Vi b.size,Vi b.marked,Vi b.parent] = dt (l ++ [b]):=by simp [dt]
theorem xu : ∀ (l : List Blk) (j : Nat) (x : Nat),(dt l).set (j * 4) (Vi x) = dt (l.set j { gb l j with first:=x }) ∧ (dt l).set (j * 4 + 1) (Vi x) = dt (l.set j { gb l j with size:=x }) ∧
  (dt l).set (j * 4 + 2) (Vi x) = dt (l.set j { gb l j with marked:=x }) ∧ (dt l).set (j * 4 + 3) (Vi x) = dt (l.set j { gb l j with parent:=x })
 | [],j,_=>by simp [dt]
 | b :: r,0,_=>⟨rfl,rfl,rfl,rfl⟩
 | b :: r,j + 1,x=>by
   have:=xu r j x
   rw [show (j + 1) * 4 = j * 4 + 4 by omega]
   simpa [dt,gb] using this
section
variable {base : Nat} {w0 w w' : World} {l : List Ow}
theorem Rows.lenV (h : Rows base w l) {i g n n' c e s : Nat} {xs : List Value} (hi : l[i]? = some ⟨Vs g n c,e,s,n',xs⟩) : n = n':=h.len hi
theorem Rows.cellV (h : Rows base w l) {i g n n' c e s : Nat} {xs : List Value} (hi : l[i]? = some ⟨Vs g n c,e,s,n',xs⟩) {j : Nat} {u : Value} (hj : xs[j]? = some u) : w.cell? ⟨g,0 + j,none⟩ = some u:=by
 obtain rfl:=h.len hi
 have:=h.1 i _ hi
 rw [Nat.zero_add,World.ownsRow.cellAt this j (by rw [← this.1]; exact (List.getElem?_eq_some_iff.1 hj).1)];exact hj
theorem Rows.storeV (h : Rows base w l) {i g n n' c e s : Nat} {xs : List Value} (hi : l[i]? = some ⟨Vs g n c,e,s,n',xs⟩) (j : Nat) (u : Value) :
  Rows base (w.setCell ⟨g,0 + j,none⟩ u) (l.set i ⟨Vs g n c,e,s,n',xs.set j u⟩) ∧ w.grownBy (w.setCell ⟨g,0 + j,none⟩ u) (some g):=by
 obtain rfl:=h.len hi;rw [Nat.zero_add];obtain ⟨h1,h2⟩:=World.ownsRow.stored (h.1 i _ hi) j u;exact ⟨h.turn hi h2 h1 (.inl rfl),h2⟩
theorem Rows.xcell (h : Rows base w l) {i T b k : Nat} {vs : List Value} (hi : l[i]? = some (oX T b k vs)) {j : Nat} {u : Value} (hj : vs[j]? = some u) : w.cell? ⟨b,j,none⟩ = some u:=by
 have:=h.cellV hi hj
 rwa [Nat.zero_add] at this
theorem Rows.free (h : Rows base w l) {i g n n' c e s : Nat} {xs : List Value} (hi : l[i]? = some ⟨Vs g n c,e,s,n',xs⟩) (j : Nat) : w.frozen? ⟨g,j,none⟩ = false:=by
 have:=h.freeI hi j
 rwa [Nat.zero_add] at this
theorem Hold.start (w : World) : Hold w.heap.size w w []:=⟨Rows.nil _ _,RowKit.Below.refl _ _,Nat.le_refl _⟩
theorem Hold.drew (h : Hold base w0 w l) : Hold base w0 w.drew l:=⟨h.r,h.b.drew,h.s⟩
theorem Hold.below (h : Hold base w0 w l) (hb : RowKit.Below w.heap.size w w') : Hold base w0 w' l:=
 ⟨h.r.below hb,h.b.trans (hb.mono h.s),Nat.le_trans h.s hb.size⟩
theorem Hold.store (h : Hold base w0 w l) {i g n n' c e s : Nat} {xs : List Value} (hi : l[i]? = some ⟨Vs g n c,e,s,n',xs⟩) (j : Nat) (u : Value) :
  Hold base w0 (w.setCell ⟨g,0 + j,none⟩ u) (l.set i ⟨Vs g n c,e,s,n',xs.set j u⟩):=by
 obtain ⟨h1,h2⟩:=h.r.storeV hi j u;exact ⟨h1,h.r.low hi h.b h.s h2,Nat.le_trans h.s h2.size⟩
theorem Hold.xstore (h : Hold base w0 w l) {i T b k : Nat} {vs : List Value} (hi : l[i]? = some (oX T b k vs)) (j : Nat) (u : Value) : Hold base w0 (w.setCell ⟨b,j,none⟩ u) (l.set i (oX T b k (vs.set j u))):=by
 have:=h.store hi j u
 rwa [Nat.zero_add] at this
theorem Hold.app {v v' : Value} {e s n m : Nat} {xs news : List Value} (h : Hold base w0 w l) {i : Nat} (hi : l[i]? = some ⟨v,e,s,n,xs⟩) (hown : w'.ownsRow base e s v' (n + m) (xs ++ news)) (hgr : w.grownBy w' v.ownBlock)
  (hat : v'.ownBlock = v.ownBlock ∨ v'.ownBlock = some w.heap.size) : Hold base w0 w' (l.set i ⟨v',e,s,n + m,xs ++ news⟩):=
 ⟨h.r.turn hi hgr hown (hat.imp id fun e=>⟨_,e,Nat.le_refl _⟩),h.r.low hi h.b h.s hgr,Nat.le_trans h.s hgr.size⟩
theorem Hold.alloc (h : Hold base w0 w l) (o : Obj) : Hold base w0 (w.alloc o) l:=h.below (ao _ _)
theorem Hold.new (h : Hold base w0 w l) (hg : w.grownBy w' none) {o : Ow} (ho : o.ok base w') (hat : o.v.ownBlock = none ∨ ∃ k,o.v.ownBlock = some k ∧ w.heap.size ≤ k) : Hold base w0 w' (o :: l):=
 ⟨h.r.new hg ho hat,h.b.trans ⟨hg.os,hg.tape,hg.output,hg.size,fun k hk=>hg.block k (Nat.lt_of_lt_of_le hk h.s) (by simp)⟩,Nat.le_trans h.s hg.size⟩
theorem Hold.lit (h : Hold base w0 w l) {e s n : Nat} (cs : Array Value) (hs : cs.size = n * s) (hn : n ≤ 9223372036854775807) : Hold base w0 (w.alloc (.cells cs e)) (⟨Vs w.heap.size n n,e,s,n,cs.toList⟩ :: l):=
 h.new (World.grownBy_alloc w _ none) (World.ownsRow_lit w cs n h.s (by unfold maxLen; exact hn) hs) (.inr ⟨_,rfl,Nat.le_refl _⟩)
theorem Hold.box (h : Hold base w0 w l) {T k : Nat} (cs : Array Value) (hs : cs.size = k) : Hold base w0 (w.alloc (.cells cs T)) (oX T w.heap.size k cs.toList :: l):=h.lit cs (by omega) (by decide)
theorem Hold.tail {o : Ow} (h : Hold base w0 w (o :: l)) : Hold base w0 w l:=⟨h.r.tail,h.b,h.s⟩
theorem Hold.swap {a b : Ow} (h : Hold base w0 w (a :: b :: l)) : Hold base w0 w (b :: a :: l):=⟨h.r.cons2,h.b,h.s⟩
theorem Rows.nilOr (h : Rows base w l) {i : Nat} {v : Value} {e s n : Nat} {xs : List Value} (hi : l[i]? = some ⟨v,e,s,n,xs⟩) (h0 : 0 < n) : ∃ g c,v = Vs g n c ∧ n ≤ c ∧ c ≤ 9223372036854775807:=by
 rcases h.form hi with ⟨_,h1⟩ | h1
 ·omega
 ·exact h1
theorem Rows.any (h : Rows base w l) {i : Nat} {v : Value} {e s n : Nat} {xs : List Value} (hi : l[i]? = some ⟨v,e,s,n,xs⟩) : ∃ g c,v = .slice g n c ∧ n ≤ c ∧ c ≤ 9223372036854775807:=by
 rcases h.form hi with ⟨h1,rfl⟩ | ⟨g,c,h1,h2,h3⟩
 ·exact ⟨_,_,h1,Nat.le_refl _,by omega⟩
 ·exact ⟨_,_,h1,h2,h3⟩
theorem Rows.cN (h : Rows base w l) {i g n c : Nat} {xs : List Nat} (hi : l[i]? = some (oN (Vs g n c) xs)) {j : Nat} (hj : j < xs.length) : w.cell? ⟨g,0 + j,none⟩ = some (Vi (gt xs j : Int)):=h.cellV hi (ab4 xs hj)
theorem Rows.cS (h : Rows base w l) {i g n c : Nat} {xs : List Nat} (hi : l[i]? = some (oS (Vs g n c) xs)) {j : Nat} (hj : j < xs.length) : w.cell? ⟨g,0 + j,none⟩ = some (.int .i32 (gt xs j : Int)):=h.cellV hi (aiz xs hj)
theorem Rows.cB (h : Rows base w l) {i g n c : Nat} {xs : List Bool} (hi : l[i]? = some (oB (Vs g n c) xs)) {j : Nat} (hj : j < xs.length) : w.cell? ⟨g,0 + j,none⟩ = some (.bool (xs.getD j false)):=h.cellV hi (by simp [List.getD_eq_getElem?_getD,hj])
theorem Rows.cK0 (h : Rows base w l) {i g n c : Nat} {xs : List Blk} (hi : l[i]? = some (oK (Vs g n c) xs)) {j : Nat} (hj : j < xs.length) : w.cell? ⟨g,0 + j * 4 + 0,none⟩ = some (Vi ((gb xs j).first : Int)):=by
 have:=h.cellV hi (ti xs j hj).1
 simpa using this
theorem Rows.cK1 (h : Rows base w l) {i g n c : Nat} {xs : List Blk} (hi : l[i]? = some (oK (Vs g n c) xs)) {j : Nat} (hj : j < xs.length) : w.cell? ⟨g,0 + j * 4 + 1,none⟩ = some (Vi ((gb xs j).size : Int)):=by
 have:=h.cellV hi (ti xs j hj).2.1
 rwa [← Nat.add_assoc] at this
theorem Rows.cK2 (h : Rows base w l) {i g n c : Nat} {xs : List Blk} (hi : l[i]? = some (oK (Vs g n c) xs)) {j : Nat} (hj : j < xs.length) : w.cell? ⟨g,0 + j * 4 + 2,none⟩ = some (Vi ((gb xs j).marked : Int)):=by
 have:=h.cellV hi (ti xs j hj).2.2.1
 rwa [← Nat.add_assoc] at this
theorem Rows.cK3 (h : Rows base w l) {i g n c : Nat} {xs : List Blk} (hi : l[i]? = some (oK (Vs g n c) xs)) {j : Nat} (hj : j < xs.length) : w.cell? ⟨g,0 + j * 4 + 3,none⟩ = some (Vi ((gb xs j).parent : Int)):=by
 have:=h.cellV hi (ti xs j hj).2.2.2
 rwa [← Nat.add_assoc] at this
end
structure PV where
 st : Value
 pl : Value
 bl : Value
 bs : Value
 cs : Value
 ml : Value
abbrev pX (b : Nat) (V : PV) : Ow:=oX 76 b 6 [V.st,V.pl,V.bl,V.bs,V.cs,V.ml]
abbrev ptR (b : Nat) (p : Pt) (V : PV) : List Ow:=[pX b V,oS V.st p.st,oN V.pl p.pl,oN V.bl p.bl,oK V.bs p.bs,oN V.cs p.cs,oN V.ml p.ml]
def du (base : Nat) (w0 w : World) (b : Nat) (p : Pt) (rest : List Ow) : Prop:=∃ V,Hold base w0 w (ptR b p V ++ rest)
section
variable {base : Nat} {w0 w w' : World} {l : List Ow}
theorem Hold.cast {l' : List Ow} (h : Hold base w0 w l) (e : l = l') : Hold base w0 w l':=e ▸ h
theorem oN_set (v : Value) (l : List Nat) (j x : Nat) : (⟨v,3,1,l.length,(nats l).set j (Vi x)⟩ : Ow) = oN v (l.set j x):=by rw [aiw,oN,List.length_set]
theorem oS_set (v : Value) (l : List Nat) (j x : Nat) : (⟨v,21,1,l.length,(n32s l).set j (.int .i32 (x : Int))⟩ : Ow) = oS v (l.set j x):=by rw [aiy,oS,List.length_set]
theorem oB_set (v : Value) (l : List Bool) (j : Nat) (x : Bool) : (⟨v,4,1,l.length,(ip l).set j (.bool x)⟩ : Ow) = oB v (l.set j x):=by rw [oB,List.length_set,ip,ip,List.map_set]
theorem oN_app (v : Value) (l : List Nat) (x : Nat) : (⟨v,3,1,l.length + 1,nats l ++ [Vi x]⟩ : Ow) = oN v (l ++ [x]):=by simp
theorem oS_app (v : Value) (l : List Nat) (x : Nat) : (⟨v,21,1,l.length + 1,n32s l ++ [.int .i32 (x : Int)]⟩ : Ow) = oS v (l ++ [x]):=by simp
theorem oK_app (v : Value) (l : List Blk) (b : Blk) : (⟨v,102,4,l.length + 1,dt l ++ [Vi b.first,Vi b.size,Vi b.marked,Vi b.parent]⟩ : Ow) = oK v (l ++ [b]):=by rw [blk_app,oK,List.length_append]; rfl
theorem oB_app (v : Value) (l k : List Bool) : (⟨v,4,1,l.length + k.length,ip l ++ ip k⟩ : Ow) = oB v (l ++ k):=by simp
theorem Hold.storeN (h : Hold base w0 w l) {i g n c : Nat} {xs : List Nat} (hi : l[i]? = some (oN (Vs g n c) xs)) (j x : Nat) : Hold base w0 (w.setCell ⟨g,0 + j,none⟩ (Vi x)) (l.set i (oN (Vs g n c) (xs.set j x))):=by
 have:=h.store hi j (Vi x)
 rwa [oN_set] at this
theorem Hold.storeS (h : Hold base w0 w l) {i g n c : Nat} {xs : List Nat} (hi : l[i]? = some (oS (Vs g n c) xs)) (j x : Nat) : Hold base w0 (w.setCell ⟨g,0 + j,none⟩ (.int .i32 (x : Int))) (l.set i (oS (Vs g n c) (xs.set j x))):=by
 have:=h.store hi j (.int .i32 (x : Int))
 rwa [oS_set] at this
theorem Hold.storeB (h : Hold base w0 w l) {i g n c : Nat} {xs : List Bool} (hi : l[i]? = some (oB (Vs g n c) xs)) (j : Nat) (x : Bool) : Hold base w0 (w.setCell ⟨g,0 + j,none⟩ (.bool x)) (l.set i (oB (Vs g n c) (xs.set j x))):=by
 have:=h.store hi j (.bool x)
 rwa [oB_set] at this
theorem Hold.storeK0 (h : Hold base w0 w l) {i g n c : Nat} {xs : List Blk} (hi : l[i]? = some (oK (Vs g n c) xs)) (j x : Nat) : Hold base w0 (w.setCell ⟨g,0 + j * 4 + 0,none⟩ (Vi x)) (l.set i (oK (Vs g n c) (xs.set j { gb xs j with first:=x }))):=by
 have:=h.store hi (j * 4) (Vi x)
 rw [(xu xs j x).1] at this;rw [oK,List.length_set]; exact this
theorem Hold.storeK1 (h : Hold base w0 w l) {i g n c : Nat} {xs : List Blk} (hi : l[i]? = some (oK (Vs g n c) xs)) (j x : Nat) : Hold base w0 (w.setCell ⟨g,0 + j * 4 + 1,none⟩ (Vi x)) (l.set i (oK (Vs g n c) (xs.set j { gb xs j with size:=x }))):=by
 have:=h.store hi (j * 4 + 1) (Vi x)
 rw [(xu xs j x).2.1,← Nat.add_assoc] at this;rw [oK,List.length_set]; exact this
theorem Hold.storeK2 (h : Hold base w0 w l) {i g n c : Nat} {xs : List Blk} (hi : l[i]? = some (oK (Vs g n c) xs)) (j x : Nat) : Hold base w0 (w.setCell ⟨g,0 + j * 4 + 2,none⟩ (Vi x)) (l.set i (oK (Vs g n c) (xs.set j { gb xs j with marked:=x }))):=by
 have:=h.store hi (j * 4 + 2) (Vi x)
 rw [(xu xs j x).2.2.1,← Nat.add_assoc] at this;rw [oK,List.length_set]; exact this
theorem Hold.appN {v v' : Value} {xs : List Nat} {x : Nat} (h : Hold base w0 w l) {i : Nat} (hi : l[i]? = some (oN v xs)) (hown : w'.ownsRow base 3 1 v' (xs.length + 1) (nats xs ++ [Vi x])) (hgr : w.grownBy w' v.ownBlock)
  (hat : v'.ownBlock = v.ownBlock ∨ v'.ownBlock = some w.heap.size) : Hold base w0 w' (l.set i (oN v' (xs ++ [x]))):=by
 have:=h.app hi hown hgr hat
 rwa [oN_app] at this
theorem Hold.appS {v v' : Value} {xs : List Nat} {x : Nat} (h : Hold base w0 w l) {i : Nat} (hi : l[i]? = some (oS v xs)) (hown : w'.ownsRow base 21 1 v' (xs.length + 1) (n32s xs ++ [.int .i32 (x : Int)])) (hgr : w.grownBy w' v.ownBlock)
  (hat : v'.ownBlock = v.ownBlock ∨ v'.ownBlock = some w.heap.size) : Hold base w0 w' (l.set i (oS v' (xs ++ [x]))):=by
 have:=h.app hi hown hgr hat
 rwa [oS_app] at this
theorem Hold.appB {v v' : Value} {xs ys : List Bool} (h : Hold base w0 w l) {i : Nat} (hi : l[i]? = some (oB v xs)) (hown : w'.ownsRow base 4 1 v' (xs.length + ys.length) (ip xs ++ ip ys)) (hgr : w.grownBy w' v.ownBlock)
  (hat : v'.ownBlock = v.ownBlock ∨ v'.ownBlock = some w.heap.size) : Hold base w0 w' (l.set i (oB v' (xs ++ ys))):=by
 have:=h.app hi hown hgr hat
 rwa [oB_app] at this
theorem Hold.appK {v v' : Value} {xs : List Blk} {b : Blk} (h : Hold base w0 w l) {i : Nat} (hi : l[i]? = some (oK v xs)) (hown : w'.ownsRow base 102 4 v' (xs.length + 1) (dt xs ++ [Vi b.first,Vi b.size,Vi b.marked,Vi b.parent])) (hgr : w.grownBy w' v.ownBlock)
  (hat : v'.ownBlock = v.ownBlock ∨ v'.ownBlock = some w.heap.size) : Hold base w0 w' (l.set i (oK v' (xs ++ [b]))):=by
 have:=h.app hi hown hgr hat
 rwa [oK_app] at this
end
theorem af6 (n : Nat) : decide ((n : Int) = 0) = decide (n = 0):=by
 rw [Bool.eq_iff_iff]; simp
theorem pk (n : Nat) (h : n ≤ 1000000000) : IntKind.i32.wrap (n : Int) = (n : Int):=by
 have h1 : (n : Int) % 2 ^ 32 = n:=by omega
 simp only [IntKind.wrap,IntKind.bits,IntKind.signed,h1];rw [if_neg (by simp; omega)]
theorem lg (n : Nat) (h : n ≤ 9223372036854775807) : IntKind.i64.wrap (n : Int) = (n : Int):=IntWalk.i64_in _ ⟨by omega,by omega⟩
theorem bm (n m : Nat) (h : n + m ≤ 9223372036854775807) : IntKind.i64.wrap ((n : Int) + (m : Int)) = ((n + m : Nat) : Int):=by
 rw [← Int.natCast_add]; exact lg _ h
theorem qk (n m : Nat) (h : m ≤ n) (hn : n ≤ 9223372036854775807) : IntKind.i64.wrap ((n : Int) - (m : Int)) = ((n - m : Nat) : Int):=by
 rw [show (n : Int) - (m : Int) = ((n - m : Nat) : Int) by omega]; exact lg _ (by omega)
theorem lz (n m : Nat) (h : n * m ≤ 9223372036854775807) : IntKind.i64.wrap ((n : Int) * (m : Int)) = ((n * m : Nat) : Int):=by
 rw [← Int.natCast_mul]; exact lg _ h
end
section
open Go Sym
section
variable {base : Nat} {w0 w : World} {b : Nat} {p : Pt} {N s : Nat} {rest : List Ow}
theorem mark_r3 {vst vpl vbl vbs vcs vml : Value} {pb : Value} {own : Nat} (h : Hold base w0 w (ptR b p ⟨vst,vpl,vbl,vbs,vcs,vml⟩ ++ rest)) (hml : p.ml.length < 1000000000)
  {Q : Exit → Act → World → Prop} {a : Act} {ops : Array Oper} {id : Nat} (hops : Sym.da Tryz.f67.body 3 = some (id,ops))
  (hS : St Tryz.f67.ntmps a [(0,Vp b),(1,Vi s),(4,Vi own),(5,pb)])
  (hq : ∀ vml' a' w',St Tryz.f67.ntmps a' [(0,Vp b),(1,Vi s),(4,Vi own),(5,pb)] → Hold base w0 w' (ptR b { p with ml:=p.ml ++ [own] } ⟨vst,vpl,vbl,vbs,vcs,vml'⟩ ++ rest) → Q .normal a' w') : (Code.region id ops false).wp Tryz.prog Q a w:=by
 cases hops
 refine bg (α:=Value) (fun _=>[(0,Vp b),(1,Vi s),(4,Vi own),(5,pb)]) (fun vml' w'=>Hold base w0 w' (ptR b { p with ml:=p.ml ++ [own] } ⟨vst,vpl,vbl,vbs,vcs,vml'⟩ ++ rest)) af hS ?_ hq
 obtain ⟨g,c,rfl,hc⟩:=h.r.any (i:=6) rfl
 repeat refine zX rfl ?_
 refine zL rfl (h.r.xcell (i:=0) rfl (j:=5) rfl) ?_
 repeat refine zX rfl ?_
 refine b8 rfl rfl rfl ?_;refine exI [(0,Vi (own))] (exI #[Vi (own)] (anI (anI rfl rfl) (anI (by decide) (anI (jv _ _ _) ?_))));have h1:=h.alloc (.cells #[Vi own] 3)
 have ask : AppAsk (w.alloc (.cells #[Vi own] 3)) ⟨3,.int .i64,1,8,Vi 0⟩ (.slice g p.ml.length c) p.ml.length (nats p.ml) (Vs w.heap.size 1 1) 1 [Vi own] base:=
  ⟨h1.r.1 6 _ rfl,.inr ⟨_,0,_,rfl,ax rfl,trivial⟩,rfl,(by simp [Value.oneCell']),(by omega),(by show (p.ml.length + 1) * 8 ≤ _; omega),h1.s⟩
 refine b8 rfl rfl rfl ?_;refine exI _ (exI _ (exI _ (exI _ (exI _ (anI (ask) (anI (fun _ h=>h.symm) (anI (by decide) ?_)))))));rintro v' w2 hown hgr - hat;have h2:=h1.appN (i:=6) rfl hown hgr hat;obtain ⟨g2,n2,c2,hv⟩:=df hown;subst hv
 repeat refine zX rfl ?_
 refine zS rfl rfl (h2.r.xcell (i:=0) rfl (j:=5) rfl) (h2.r.free (i:=0) rfl 5) ?_;exact aj ⟨.slice g2 n2 c2,⟨rfl,rfl,rfl,rfl,trivial⟩,h2.xstore (i:=0) rfl 5 (.slice g2 n2 c2)⟩
theorem mark_r6 {vst vpl vbl vbs vcs vml : Value} {pb : Value} {to fr ot : Nat} (h : Hold base w0 w (ptR b p ⟨vst,vpl,vbl,vbs,vcs,vml⟩ ++ rest)) (hto : to < p.st.length) (hfr : fr < p.st.length) (hs : s < 1000000000)
  {Q : Exit → Act → World → Prop} {a : Act} {ops : Array Oper} {id : Nat} (hops : Sym.da Tryz.f67.body 6 = some (id,ops))
  (hS : St Tryz.f67.ntmps a [(0,Vp b),(1,Vi s),(5,pb),(6,Vi to),(7,Vi fr),(8,.int .i32 (ot : Int))])
  (hq : ∀ a' w',St Tryz.f67.ntmps a' [(0,Vp b),(1,Vi s),(5,pb),(6,Vi to),(7,Vi fr),(8,.int .i32 (ot : Int))] → Hold base w0 w' (ptR b { p with st:=(p.st.set to s).set fr ot } ⟨vst,vpl,vbl,vbs,vcs,vml⟩ ++ rest) → Q .normal a' w') : (Code.region id ops true).wp Tryz.prog Q a w:=by
 cases hops
 refine d5 14 [(0,Vp b),(1,Vi s),(5,pb),(6,Vi to),(7,Vi fr),(8,.int .i32 (ot : Int))] (fun w'=>Hold base w0 w' (ptR b { p with st:=(p.st.set to s).set fr ot } ⟨vst,vpl,vbl,vbs,vcs,vml⟩ ++ rest)) dc hS ?_ hq
 have hy : RowKit.Below w.drew.heap.size w.drew w.drew:=RowKit.Below.refl _ _;have hD:=h.drew;obtain ⟨g,c,rfl,hc⟩:=hD.r.nilOr (i:=1) rfl (by omega);refine yG 0 af rfl (by kernel_rfl) (.inr hy) rfl rfl ?_;refine yT 1 af rfl (by kernel_rfl) hy rfl (rfl) ?_;refine yT 2 af rfl (by kernel_rfl) hy rfl (rfl) ?_;refine yL 3 af rfl (by kernel_rfl) hy rfl rfl (hD.r.xcell (i:=0) rfl (j:=0) rfl) ?_;refine yG 4 af rfl (by kernel_rfl) (.inr hy) rfl rfl ?_;refine yG 5 af rfl (by kernel_rfl) (.inr hy) rfl rfl ?_;refine yT 6 af rfl (by kernel_rfl) hy rfl (rfl) ?_;refine yT 7 af rfl (by kernel_rfl) hy rfl (rfl) ?_;refine yL 8 af rfl (by kernel_rfl) hy rfl rfl (hD.r.xcell (i:=0) rfl (j:=0) rfl) ?_;refine yG 10 af rfl (by kernel_rfl) (.inr hy) rfl rfl ?_;refine yT 11 af rfl (by kernel_rfl) hy rfl (exI _ (anI (pk s (by omega)) rfl)) ?_;refine yT 13 af rfl (by kernel_rfl) hy rfl (exI _ (anI (rfl) (anI (hto) rfl))) ?_;refine yG 9 af rfl (by kernel_rfl) (.inr hy) rfl rfl ?_;refine yG 12 af rfl (by kernel_rfl) (.inr hy) rfl rfl ?_;refine bo 14 (by kernel_rfl) (ew 14 af rfl rfl rfl ?_);have h1:=hD.storeS (i:=1) rfl to s;refine anI rfl (anI rfl (anI ⟨_,hD.r.cS (i:=1) rfl hto⟩ (anI (hD.r.free (i:=1) rfl _) (anI (.inl (by kernel_rfl)) ?_))));refine yG 15 af rfl (by kernel_rfl) (.inl (by kernel_rfl)) rfl (exI _ (anI (rfl) (anI (hfr) rfl))) ?_;refine bo 16 (by kernel_rfl) (ew 16 af rfl rfl rfl ?_);refine anI rfl (anI rfl (anI ⟨_,h1.r.cS (i:=1) rfl (j:=fr) (by rw [List.length_set]; exact hfr)⟩ (anI (h1.r.free (i:=1) rfl _) (anI (.inl (by kernel_rfl)) ?_))));exact iq (by kernel_rfl) ⟨rfl,rfl,rfl,rfl,rfl,rfl,trivial⟩ (h1.storeS (i:=1) rfl fr ot)
theorem mark_r7 {vst vpl vbl vbs vcs vml : Value} {pb : Value} {to fr ot : Nat} (h : Hold base w0 w (ptR b p ⟨vst,vpl,vbl,vbs,vcs,vml⟩ ++ rest)) (hs : s < p.pl.length) (hot : ot < p.pl.length) (hN : p.pl.length ≤ 1000000000)
  {Q : Exit → Act → World → Prop} {a : Act} {ops : Array Oper} {id : Nat} (hops : Sym.da Tryz.f67.body 7 = some (id,ops))
  (hS : St Tryz.f67.ntmps a [(0,Vp b),(1,Vi s),(5,pb),(6,Vi to),(7,Vi fr),(8,.int .i32 (ot : Int))])
  (hq : ∀ a' w',St Tryz.f67.ntmps a' [(5,pb)] → Hold base w0 w' (ptR b { p with pl:=(p.pl.set s to).set ot fr } ⟨vst,vpl,vbl,vbs,vcs,vml⟩ ++ rest) → Q .normal a' w') : (Code.region id ops true).wp Tryz.prog Q a w:=by
 cases hops
 refine d5 13 [(5,pb)] (fun w'=>Hold base w0 w' (ptR b { p with pl:=(p.pl.set s to).set ot fr } ⟨vst,vpl,vbl,vbs,vcs,vml⟩ ++ rest)) dc hS ?_ hq
 have hy : RowKit.Below w.drew.heap.size w.drew w.drew:=RowKit.Below.refl _ _;have hD:=h.drew;obtain ⟨g,c,rfl,hc⟩:=hD.r.nilOr (i:=2) rfl (by omega);refine yG 0 af rfl (by kernel_rfl) (.inr hy) rfl rfl ?_;refine yT 1 af rfl (by kernel_rfl) hy rfl (rfl) ?_;refine yT 2 af rfl (by kernel_rfl) hy rfl (rfl) ?_;refine yL 3 af rfl (by kernel_rfl) hy rfl rfl (hD.r.xcell (i:=0) rfl (j:=1) rfl) ?_;refine yG 4 af rfl (by kernel_rfl) (.inr hy) rfl rfl ?_;refine yG 5 af rfl (by kernel_rfl) (.inr hy) rfl rfl ?_;refine yT 6 af rfl (by kernel_rfl) hy rfl (rfl) ?_;refine yT 7 af rfl (by kernel_rfl) hy rfl (rfl) ?_;refine yL 8 af rfl (by kernel_rfl) hy rfl rfl (hD.r.xcell (i:=0) rfl (j:=1) rfl) ?_;refine yG 10 af rfl (by kernel_rfl) (.inr hy) rfl rfl ?_;refine yT 12 af rfl (by kernel_rfl) hy rfl (exI _ (anI (rfl) (anI (hs) rfl))) ?_;refine yG 9 af rfl (by kernel_rfl) (.inr hy) rfl rfl ?_;refine yG 11 af rfl (by kernel_rfl) (.inr hy) rfl rfl ?_;refine bo 13 (by kernel_rfl) (ew 13 af rfl rfl rfl ?_);have h1:=hD.storeN (i:=2) rfl s to;refine anI rfl (anI rfl (anI ⟨_,hD.r.cN (i:=2) rfl hs⟩ (anI (hD.r.free (i:=2) rfl _) (anI (.inl (by kernel_rfl)) ?_))));refine yG 14 af rfl (by kernel_rfl) (.inl (by kernel_rfl)) rfl (exI _ (anI (rfl) (anI (hot) rfl))) ?_;refine bo 15 (by kernel_rfl) (ew 15 af rfl rfl rfl ?_);refine anI rfl (anI rfl (anI ⟨_,h1.r.cN (i:=2) rfl (j:=ot) (by rw [List.length_set]; exact hot)⟩ (anI (h1.r.free (i:=2) rfl _) (anI (.inl (by kernel_rfl)) ?_))));exact iq (by kernel_rfl) ⟨rfl,trivial⟩ (h1.storeN (i:=2) rfl ot fr)
theorem ab6 (h : du base w0 w b p rest) (hp : PI p N p.ml) (hs : s < N) (hm : ¬ p.M s) (hN : N ≤ 100000000) :
  Calls Tryz.prog 67 #[Vp b,Vi s] w fun e w'=>e = .returned (.tuple #[]) ∧ du base w0 w' b (p.mark s) rest:=by
 obtain ⟨⟨vst,vpl,vbl,vbs,vcs,vml⟩,h⟩:=h;refine Sym.c8 (args:=[Vp b,Vi s]) Tryz.func67 rfl rfl rfl (fun a0 hS0=>?_);have hib:=hp.ib s hs;have hto:=hp.to hs hm;obtain ⟨own,hown⟩ : ∃ own,gt p.bl s = own:=⟨_,rfl⟩;rw [hown] at hib hto;have hbd:=hp.bd own hib;have hps:=hp.ps s hs;have hl1:=hp.st;have hl2:=hp.pl;have hl3:=hp.bl;have hfew:=hp.few
 have hml : p.ml.length ≤ N:=by
  have:=hp.nd.length_le_of_subset (l₂:=List.range p.bs.length) (fun x hx=>List.mem_range.2 ((hp.tm x).1 hx).1)
  rw [List.length_range] at this;omega
 obtain ⟨gbl,cbl,rfl,-⟩:=h.r.nilOr (i:=3) rfl (by omega);obtain ⟨gbs,cbs,rfl,-⟩:=h.r.nilOr (i:=4) rfl (by omega);obtain ⟨gpl,cpl,rfl,-⟩:=h.r.nilOr (i:=2) rfl (by omega);obtain ⟨gst,cst,rfl,-⟩:=h.r.nilOr (i:=1) rfl (by omega);refine wp_seq (ai [(0,Vp b),(1,Vi s),(4,Vi own)] (· = w) af hS0 ?_ (fun a w1 hS hw=>?_))
 ·have hc:=h.r.cN (i:=3) rfl (j:=s) (by omega);rw [hown] at hc
  repeat refine zX rfl ?_
  refine zL rfl (h.r.xcell (i:=0) rfl (j:=2) rfl) ?_
  repeat refine zX rfl ?_
  refine zI rfl (rfl) ((by omega)) ?_;refine zL rfl (hc) ?_
  repeat refine zX rfl ?_
  exact aj ⟨⟨rfl,rfl,rfl,trivial⟩,rfl⟩
 subst hw;refine wp_seq (ai [(0,Vp b),(1,Vi s),(4,Vi own),(5,.pointer (some ⟨gbs,0 + own * 4,none⟩))] (· = w1) af hS ?_ (fun a w2 hS hw=>?_))
 ·repeat refine zX rfl ?_
  refine zL rfl (h.r.xcell (i:=0) rfl (j:=3) rfl) ?_
  repeat refine zX rfl ?_
  refine zI rfl (rfl) (hib) ?_
  repeat refine zX rfl ?_
  exact aj ⟨⟨rfl,rfl,rfl,rfl,trivial⟩,rfl⟩
 subst hw;obtain ⟨ml',hml'⟩ : ∃ ml',ml' = if (gb p.bs own).marked = 0 then p.ml ++ [own] else p.ml:=⟨_,rfl⟩;refine wp_seq (cut (F:=fun a' w'=>∃ vml' : Value,St Tryz.f67.ntmps a' [(0,Vp b),(1,Vi s),(4,Vi own),(5,.pointer (some ⟨gbs,0 + own * 4,none⟩))] ∧ Hold base w0 w' (ptR b { p with ml:=ml' } ⟨Vs gst p.st.length cst,Vs gpl p.pl.length cpl,Vs gbl p.bl.length cbl,Vs gbs p.bs.length cbs,vcs,vml'⟩ ++ rest)) ?_ ?_)
 ·refine wp_seq (ai [(0,Vp b),(1,Vi s),(4,Vi own),(5,.pointer (some ⟨gbs,0 + own * 4,none⟩)),(26,.bool (decide ((gb p.bs own).marked = 0)))] (· = w2) af hS ?_ (fun a w3 hS hw=>?_))
  ·repeat refine zX rfl ?_
   refine zL rfl (h.r.cK2 (i:=4) rfl hib) ?_
   repeat refine zX rfl ?_
   refine zC rfl (af6 _) ?_
   repeat refine zX rfl ?_
   exact aj ⟨⟨rfl,rfl,rfl,rfl,rfl,trivial⟩,rfl⟩
  subst hw;refine cond hS rfl (fun hT=>?_) (fun hF=>?_)
  ·refine mark_r3 h (by omega) (by rfl) (hS.sub ⟨rfl,rfl,rfl,rfl,trivial⟩) (fun vml' a w4 hS h=>?_);rw [hml',if_pos (of_decide_eq_true hT)];exact ⟨vml',hS,h⟩
  ·refine wp_skip ?_;rw [hml',if_neg (of_decide_eq_false hF)];exact ⟨vml,hS.sub ⟨rfl,rfl,rfl,rfl,trivial⟩,h⟩
 clear h hS;rintro a w3 ⟨vml',hS,h⟩;refine wp_seq (b6 [(0,Vp b),(1,Vi s),(5,.pointer (some ⟨gbs,0 + own * 4,none⟩)),(6,Vi (((gb p.bs own).first + (gb p.bs own).marked : Nat) : Int)),(7,Vi (gt p.pl s : Int))] af dc (by kernel_rfl) hS ?_ (fun a w4 hS hw=>?_))
 ·repeat refine qX rfl ?_
  refine qL rfl (h.r.cK0 (i:=4) rfl hib) ?_
  repeat refine qX rfl ?_
  refine qL rfl (h.r.cK2 (i:=4) rfl hib) ?_;refine qN rfl (bm _ _ (by (try dsimp only); omega)) ?_
  repeat refine qX rfl ?_
  refine qL rfl (h.r.xcell (i:=0) rfl (j:=1) rfl) ?_
  repeat refine qX rfl ?_
  refine qI rfl (rfl) ((by (try dsimp only); omega)) ?_;refine qL rfl (h.r.cN (i:=2) rfl (j:=s) (by (try dsimp only); omega)) ?_
  repeat refine qX rfl ?_
  exact fa ⟨rfl,rfl,rfl,rfl,rfl,trivial⟩
 replace h:=h.below hw;refine wp_seq (ai [(0,Vp b),(1,Vi s),(5,.pointer (some ⟨gbs,0 + own * 4,none⟩)),(6,Vi (((gb p.bs own).first + (gb p.bs own).marked : Nat) : Int)),(7,Vi (gt p.pl s : Int)),(8,.int .i32 (gt p.st ((gb p.bs own).first + (gb p.bs own).marked) : Int))] (· = w4) af hS ?_ (fun a w5 hS hw=>?_))
 ·repeat refine zX rfl ?_
  refine zL rfl (h.r.xcell (i:=0) rfl (j:=0) rfl) ?_
  repeat refine zX rfl ?_
  refine zI rfl (rfl) ((by (try dsimp only); omega)) ?_;refine zL rfl (h.r.cS (i:=1) rfl (j:=(gb p.bs own).first + (gb p.bs own).marked) (by show _ < p.st.length; omega)) ?_
  repeat refine zX rfl ?_
  exact aj ⟨⟨rfl,rfl,rfl,rfl,rfl,rfl,trivial⟩,rfl⟩
 subst hw;refine wp_seq (mark_r6 h (by show _ < p.st.length; omega) (by show _ < p.st.length; omega) (by (try dsimp only); omega) (by rfl) hS (fun a w6 hS h=>?_));have hot:=(hp.sp ((gb p.bs own).first + (gb p.bs own).marked) (by (try dsimp only); omega)).1;refine wp_seq (mark_r7 h (by show _ < p.pl.length; omega) (by show _ < p.pl.length; omega) (by show p.pl.length ≤ _; omega) (by rfl) hS (fun a w7 hS h=>?_));refine ai [] (fun w8=>du base w0 w8 b (p.mark s) rest) af hS ?_ (fun a w8 hS hw=>ret0 hS rfl ⟨rfl,hw⟩)
 repeat refine zX rfl ?_
 refine zL rfl (h.r.cK2 (i:=4) rfl hib) ?_
 repeat refine zX rfl ?_
 refine zN rfl (bm _ 1 (by (try dsimp only); omega)) ?_
 repeat refine zX rfl ?_
 refine zS rfl rfl (h.r.cK2 (i:=4) rfl hib) (h.r.free (i:=4) rfl _) ?_;refine aj ⟨trivial,⟨⟨Vs gst p.st.length cst,Vs gpl p.pl.length cpl,Vs gbl p.bl.length cbl,Vs gbs p.bs.length cbs,vcs,vml'⟩,(h.storeK2 (i:=4) rfl own _).cast ?_⟩⟩;subst hml';unfold Pt.mark;rw [hown];rfl
end
end
section
open Go Sym
theorem mz : bk Tryz.prog 36 = true:=by kernel_rfl
theorem vk : bk Tryz.prog 85 = true:=by kernel_rfl
theorem ag0 : bk Tryz.prog 67 = true:=by kernel_rfl
section
variable {base : Nat} {w0 w : World} {b : Nat} {p : Pt} {N s : Nat} {rest : List Ow}
theorem ajc {g c l k : Nat} (hk : 0 < k) (hl : l + k ≤ c) : (Value.slice (if c = l then some ⟨g,0,none⟩ else (some (⟨g,0,none⟩ : Addr)).map (·.add (l * 1))) k (c - l)) = .slice (some ⟨g,l,none⟩) k (c - l):=by
 rw [if_neg (by omega)];simp only [Option.map_some,Addr.add,Nat.mul_one]
 split
 ·rename_i h; rw [h]
 ·simp
theorem kd {V : PV} (h : Hold base w0 w (ptR b p V ++ rest)) (hc : 0 < p.cs.length) (hN : p.cs.length ≤ 1000000000) :
  Calls Tryz.prog 36 #[Vp b] w fun e w'=>e = .returned (Vi (p.cs.length - 1 : Nat)) ∧ RowKit.Below w.heap.size w w':=by
 obtain ⟨vst,vpl,vbl,vbs,vcs,vml⟩:=V;refine Sym.c8 (args:=[Vp b]) Tryz.func36 rfl rfl rfl (fun a0 hS0=>?_);obtain ⟨g,c,rfl,-⟩:=h.r.any (i:=5) rfl;refine wp_seq (ai [(0,Vp b)] (· = w) af hS0 ?_ (fun a w1 hS hw=>?_))
 ·repeat refine zX rfl ?_
  exact aj ⟨⟨rfl,trivial⟩,rfl⟩
 subst hw;refine wp_seq (ai [(2,Vi (p.cs.length - 1 : Nat))] (· = w1) af hS ?_ (fun a w2 hS hw=>?_))
 ·repeat refine zX rfl ?_
  refine zL rfl (h.r.xcell (i:=0) rfl (j:=4) rfl) ?_
  repeat refine zX rfl ?_
  refine zN rfl (qk _ 1 (by omega) (by omega)) ?_
  repeat refine zX rfl ?_
  exact aj ⟨⟨rfl,trivial⟩,rfl⟩
 subst hw;refine wp_ret ?_
 repeat first|refine a8 ?_|refine am ?_
 exact ret1 hS rfl rfl ⟨rfl,RowKit.Below.refl _ _⟩
theorem sh {vpl vbl vbs vcs vml mk par : Value} {gst cst l k : Nat} (h : Hold base w0 w (ptR b p ⟨Vs gst p.st.length cst,vpl,vbl,vbs,vcs,vml⟩ ++ rest)) (hk : 0 < k) (hl : l + k ≤ p.st.length) (hN : p.st.length ≤ 1000000000) :
  Calls Tryz.prog 85 #[Vp b,.agg #[Vi l,Vi k,mk,par]] w fun e w'=>e = .returned (.slice (some ⟨gst,l,none⟩) k (cst - l)) ∧ RowKit.Below w.heap.size w w':=by
 refine Sym.c8 (args:=[Vp b,.agg #[Vi l,Vi k,mk,par]]) Tryz.func85 rfl rfl rfl (fun a0 hS0=>?_);obtain ⟨g,c,hv,hc,-⟩:=h.r.nilOr (i:=1) rfl (by omega);simp only [Value.slice.injEq] at hv;obtain ⟨hv1,-,rfl⟩:=hv;refine wp_seq (ai [(0,Vp b),(3,Vp w.heap.size)] (· = w.alloc (.cells #[Vi l,Vi k,mk,par] 102)) af hS0 ?_ (fun a w1 hS hw=>?_))
 ·refine zB rfl ?_
  repeat refine zX rfl ?_
  exact aj ⟨⟨rfl,rfl,trivial⟩,rfl⟩
 have hB : RowKit.Below w.heap.size w w1:=by rw [hw]; exact ao _ _
 have hc0 : w1.cell? ⟨w.heap.size,0,none⟩ = some (Vi l):=by rw [hw]; exact ax rfl
 have hc1 : w1.cell? ⟨w.heap.size,1,none⟩ = some (Vi k):=by rw [hw]; exact ax rfl
 obtain ⟨B,hBB⟩ : ∃ B,B = w.heap.size:=⟨_,rfl⟩;rw [← hBB] at hc0 hc1 hS;have h1:=h.below hB;refine wp_seq (b6 [(4,.slice (some ⟨gst,l,none⟩) k (cst - l))] af dc (by kernel_rfl) hS ?_ (fun a w2 hS hw2=>?_))
 ·repeat refine qX rfl ?_
  refine qL rfl (h1.r.xcell (i:=0) rfl (j:=0) rfl) ?_
  repeat refine qX rfl ?_
  refine qL rfl (hc0) ?_
  repeat refine qX rfl ?_
  refine qL rfl (hc0) ?_
  repeat refine qX rfl ?_
  refine qL rfl (hc1) ?_;refine qN rfl (bm _ _ (by omega)) ?_;refine abz rfl rfl rfl (exI l (exI (l + k) (anI ⟨_,_,rfl,rfl⟩ (anI ⟨_,_,rfl,rfl⟩ (anI (by omega) (anI (by omega) (anI hc ?_)))))));rw [show l + k - l = k by omega];have e:=ajc (g:=gst) (c:=cst) (l:=l) hk (by omega);refine cast (congrArg (fun v=>eb _ _ _ _ _ _ _ ((16,v) :: _)) e.symm) ?_
  repeat refine qX rfl ?_
  exact fa ⟨rfl,trivial⟩
 refine wp_ret ?_
 repeat first|refine a8 ?_|refine am ?_
 exact ret1 hS rfl rfl ⟨rfl,ak hB hw2⟩
theorem qx (st : List Nat) (nb : Nat) : ∀ (k i : Nat) (bl : List Nat),dj st nb bl i (k + 1) = (dj st nb bl i k).set (gt st (i + k)) nb
 | 0,i,bl=>rfl
 | k + 1,i,bl=>by
   rw [dj,qx st nb k (i + 1),dj,show i + 1 + k = i + (k + 1) by omega]
abbrev bX (B : Nat) (x : Blk) : Ow:=oX 102 B 4 [Vi x.first,Vi x.size,Vi x.marked,Vi x.parent]
variable {vst vpl vbl vcs vml : Value} {gbs cbs lbs n k old : Nat}
theorem aie (h : Hold base w0 w (ptR b p ⟨vst,vpl,vbl,Vs gbs lbs cbs,vcs,vml⟩ ++ rest)) (hold : old < p.bs.length) {Q : Exit → Act → World → Prop} {a : Act} {ops : Array Oper} {id : Nat} (hops : Sym.da Tryz.f68.body 4 = some (id,ops))
  (hS : St Tryz.f68.ntmps a [(0,Vp b),(11,vml),(12,Vi n),(13,Vi k),(3,Vi old),(4,.pointer (some ⟨gbs,0 + old * 4,none⟩))])
  (hq : ∀ B a' w',St Tryz.f68.ntmps a' [(0,Vp b),(11,vml),(12,Vi n),(13,Vi k),(3,Vi old),(4,.pointer (some ⟨gbs,0 + old * 4,none⟩)),(5,Vp B)] → Hold base w0 w' (bX B ⟨(gb p.bs old).first,(gb p.bs old).marked,0,old⟩ :: (ptR b p ⟨vst,vpl,vbl,Vs gbs lbs cbs,vcs,vml⟩ ++ rest)) → Q .normal a' w') : (Code.region id ops true).wp Tryz.prog Q a w:=by
 cases hops
 refine ep (α:=Nat) 12 (fun B=>[(0,Vp b),(11,vml),(12,Vi n),(13,Vi k),(3,Vi old),(4,.pointer (some ⟨gbs,0 + old * 4,none⟩)),(5,Vp B)]) (fun B w'=>Hold base w0 w' (bX B ⟨(gb p.bs old).first,(gb p.bs old).marked,0,old⟩ :: (ptR b p ⟨vst,vpl,vbl,Vs gbs lbs cbs,vcs,vml⟩ ++ rest))) dc hS ?_ hq;have hy : RowKit.Below w.drew.heap.size w.drew w.drew:=RowKit.Below.refl _ _;have hD:=h.drew;refine yT 0 af rfl (by kernel_rfl) hy rfl (rfl) ?_;refine yT 1 af rfl (by kernel_rfl) hy rfl (rfl) ?_;refine yT 2 af rfl (by kernel_rfl) hy rfl (rfl) ?_;refine yL 3 af rfl (by kernel_rfl) hy rfl rfl (hD.r.cK0 (i:=4) rfl hold) ?_;refine yT 4 af rfl (by kernel_rfl) hy rfl (rfl) ?_;refine yT 5 af rfl (by kernel_rfl) hy rfl (rfl) ?_;refine yT 6 af rfl (by kernel_rfl) hy rfl (rfl) ?_;refine yL 7 af rfl (by kernel_rfl) hy rfl rfl (hD.r.cK2 (i:=4) rfl hold) ?_;refine yT 8 af rfl (by kernel_rfl) hy rfl (rfl) ?_;refine yT 9 af rfl (by kernel_rfl) hy rfl (rfl) ?_;refine bo 10 (by kernel_rfl) (y_op 10 af rfl rfl rfl rfl ?_);have h1:=hD.box (T:=102) (k:=4) #[Vi 0,Vi 0,Vi 0,Vi 0] rfl;have hy1:=hy.alloc (Nat.le_refl _) (.cells #[Vi 0,Vi 0,Vi 0,Vi 0] 102);refine anI (.inr hy1) ?_;refine bo 11 (by kernel_rfl) (ew 11 af rfl rfl rfl ?_);have ho:=OwnB.new w.drew [Vi 0,Vi 0,Vi 0,Vi 0] 102;refine anI rfl (anI rfl (anI (b0 ho) ?_))
 have hb2 : RowKit.Below w.drew.heap.size w.drew ((w.drew.alloc (.cells #[Vi 0,Vi 0,Vi 0,Vi 0] 102)).setCells w.drew.heap.size 0 [Vi ((gb p.bs old).first : Int),Vi ((gb p.bs old).marked : Int),Vi 0,Vi old]):=a6 hy1 (bz _ _ _ _) (fun k hk=>by
  simp only [Option.some.injEq] at hk; omega)
 refine anI (.inr hb2) (fc w.drew.heap.size (by kernel_rfl) ⟨rfl,rfl,rfl,rfl,rfl,rfl,rfl,trivial⟩ ?_);have ho2:=ho.sets (us:=[Vi ((gb p.bs old).first : Int),Vi ((gb p.bs old).marked : Int),Vi 0,Vi old]) rfl;have hg : w.drew.grownBy ((w.drew.alloc (.cells #[Vi 0,Vi 0,Vi 0,Vi 0] 102)).setCells w.drew.heap.size 0 [Vi ((gb p.bs old).first : Int),Vi ((gb p.bs old).marked : Int),Vi 0,Vi old]) none:=et hb2;exact hD.new hg ⟨rfl,.inr ⟨_,1,_,rfl,hD.s,ho2,Nat.le_refl _,by decide,rfl,rfl⟩⟩ (.inr ⟨_,rfl,Nat.le_refl _⟩)
variable {B : Nat} {x : Blk} {gbl cbl lbl : Nat}
theorem aid (h : Hold base w0 w (bX B x :: (ptR b p ⟨vst,vpl,vbl,Vs gbs lbs cbs,vcs,vml⟩ ++ rest))) (hold : old < p.bs.length) (hN : (gb p.bs old).first + x.size ≤ 1000000000) {Q : Exit → Act → World → Prop} {a : Act} {ops : Array Oper} {id : Nat} (hops : Sym.da Tryz.f68.body 9 = some (id,ops))
  (hS : St Tryz.f68.ntmps a [(0,Vp b),(11,vml),(12,Vi n),(13,Vi k),(3,Vi old),(4,.pointer (some ⟨gbs,0 + old * 4,none⟩)),(5,Vp B)])
  (hq : ∀ a' w',St Tryz.f68.ntmps a' [(0,Vp b),(11,vml),(12,Vi n),(13,Vi k),(3,Vi old),(4,.pointer (some ⟨gbs,0 + old * 4,none⟩)),(5,Vp B)] → Hold base w0 w' (bX B x :: (ptR b { p with bs:=p.bs.set old { gb p.bs old with first:=(gb p.bs old).first + x.size } } ⟨vst,vpl,vbl,Vs gbs lbs cbs,vcs,vml⟩ ++ rest)) → Q .normal a' w') : (Code.region id ops true).wp Tryz.prog Q a w:=by
 cases hops
 refine d5 9 [(0,Vp b),(11,vml),(12,Vi n),(13,Vi k),(3,Vi old),(4,.pointer (some ⟨gbs,0 + old * 4,none⟩)),(5,Vp B)] (fun w'=>Hold base w0 w' (bX B x :: (ptR b { p with bs:=p.bs.set old { gb p.bs old with first:=(gb p.bs old).first + x.size } } ⟨vst,vpl,vbl,Vs gbs lbs cbs,vcs,vml⟩ ++ rest))) dc hS ?_ hq
 have hy : RowKit.Below w.drew.heap.size w.drew w.drew:=RowKit.Below.refl _ _;have hD:=h.drew;refine yT 0 af rfl (by kernel_rfl) hy rfl (rfl) ?_;refine yT 1 af rfl (by kernel_rfl) hy rfl (rfl) ?_;refine yT 2 af rfl (by kernel_rfl) hy rfl (rfl) ?_;refine yL 3 af rfl (by kernel_rfl) hy rfl rfl (hD.r.cK0 (i:=5) rfl hold) ?_;refine yT 4 af rfl (by kernel_rfl) hy rfl (rfl) ?_;refine yL 5 af rfl (by kernel_rfl) hy rfl rfl (hD.r.xcell (i:=0) rfl (j:=1) rfl) ?_;refine yT 6 af rfl (by kernel_rfl) hy rfl (exI _ (anI (bm _ _ (by omega)) rfl)) ?_;refine yT 7 af rfl (by kernel_rfl) hy rfl (rfl) ?_;refine yT 8 af rfl (by kernel_rfl) hy rfl (rfl) ?_;refine bo 9 (by kernel_rfl) (ew 9 af rfl rfl rfl ?_);refine anI rfl (anI rfl (anI ⟨_,hD.r.cK0 (i:=5) rfl hold⟩ (anI (hD.r.free (i:=5) rfl _) (anI (.inl (by kernel_rfl)) ?_))));exact iq (by kernel_rfl) ⟨rfl,rfl,rfl,rfl,rfl,rfl,rfl,trivial⟩ (hD.storeK0 (i:=5) rfl old _)
theorem aez (h : Hold base w0 w (bX B x :: (ptR b p ⟨vst,vpl,vbl,Vs gbs lbs cbs,vcs,vml⟩ ++ rest))) (hold : old < p.bs.length) (hN : x.size ≤ (gb p.bs old).size) (hN2 : (gb p.bs old).size ≤ 1000000000) {Q : Exit → Act → World → Prop} {a : Act} {ops : Array Oper} {id : Nat} (hops : Sym.da Tryz.f68.body 10 = some (id,ops))
  (hS : St Tryz.f68.ntmps a [(0,Vp b),(11,vml),(12,Vi n),(13,Vi k),(3,Vi old),(4,.pointer (some ⟨gbs,0 + old * 4,none⟩)),(5,Vp B)])
  (hq : ∀ a' w',St Tryz.f68.ntmps a' [(0,Vp b),(11,vml),(12,Vi n),(13,Vi k),(5,Vp B)] → Hold base w0 w' (bX B x :: (ptR b { p with bs:=p.bs.set old { gb p.bs old with size:=(gb p.bs old).size - x.size } } ⟨vst,vpl,vbl,Vs gbs lbs cbs,vcs,vml⟩ ++ rest)) → Q .normal a' w') : (Code.region id ops true).wp Tryz.prog Q a w:=by
 cases hops
 refine d5 9 [(0,Vp b),(11,vml),(12,Vi n),(13,Vi k),(5,Vp B)] (fun w'=>Hold base w0 w' (bX B x :: (ptR b { p with bs:=p.bs.set old { gb p.bs old with size:=(gb p.bs old).size - x.size } } ⟨vst,vpl,vbl,Vs gbs lbs cbs,vcs,vml⟩ ++ rest))) dc hS ?_ hq
 have hy : RowKit.Below w.drew.heap.size w.drew w.drew:=RowKit.Below.refl _ _;have hD:=h.drew;refine yT 0 af rfl (by kernel_rfl) hy rfl (rfl) ?_;refine yT 1 af rfl (by kernel_rfl) hy rfl (rfl) ?_;refine yT 2 af rfl (by kernel_rfl) hy rfl (rfl) ?_;refine yL 3 af rfl (by kernel_rfl) hy rfl rfl (hD.r.cK1 (i:=5) rfl hold) ?_;refine yT 4 af rfl (by kernel_rfl) hy rfl (rfl) ?_;refine yL 5 af rfl (by kernel_rfl) hy rfl rfl (hD.r.xcell (i:=0) rfl (j:=1) rfl) ?_;refine yT 6 af rfl (by kernel_rfl) hy rfl (exI _ (anI (qk _ _ (by omega) (by omega)) rfl)) ?_;refine yT 7 af rfl (by kernel_rfl) hy rfl (rfl) ?_;refine yT 8 af rfl (by kernel_rfl) hy rfl (rfl) ?_;refine bo 9 (by kernel_rfl) (ew 9 af rfl rfl rfl ?_);refine anI rfl (anI rfl (anI ⟨_,hD.r.cK1 (i:=5) rfl hold⟩ (anI (hD.r.free (i:=5) rfl _) (anI (.inl (by kernel_rfl)) ?_))));exact iq (by kernel_rfl) ⟨rfl,rfl,rfl,rfl,rfl,trivial⟩ (hD.storeK1 (i:=5) rfl old _)
theorem aey {vm : Value} {m j t : Nat} (h : Hold base w0 w (bX B x :: (ptR b p ⟨vst,vpl,Vs gbl lbl cbl,Vs gbs lbs cbs,vcs,vml⟩ ++ rest))) (ht : t < p.bl.length) {Q : Exit → Act → World → Prop} {a : Act} {ops : Array Oper} {id : Nat} (hops : Sym.da Tryz.f68.body 14 = some (id,ops))
  (hS : St Tryz.f68.ntmps a [(0,Vp b),(11,vml),(12,Vi n),(13,Vi k),(5,Vp B),(78,vm),(79,Vi m),(80,Vi j),(7,.int .i32 (t : Int))])
  (hq : ∀ a' w',St Tryz.f68.ntmps a' [(0,Vp b),(11,vml),(12,Vi n),(13,Vi k),(5,Vp B),(78,vm),(79,Vi m),(80,Vi j)] → Hold base w0 w' (bX B x :: (ptR b { p with bl:=p.bl.set t lbs } ⟨vst,vpl,Vs gbl lbl cbl,Vs gbs lbs cbs,vcs,vml⟩ ++ rest)) → Q .normal a' w') : (Code.region id ops true).wp Tryz.prog Q a w:=by
 cases hops
 refine d5 11 [(0,Vp b),(11,vml),(12,Vi n),(13,Vi k),(5,Vp B),(78,vm),(79,Vi m),(80,Vi j)] (fun w'=>Hold base w0 w' (bX B x :: (ptR b { p with bl:=p.bl.set t lbs } ⟨vst,vpl,Vs gbl lbl cbl,Vs gbs lbs cbs,vcs,vml⟩ ++ rest))) dc hS ?_ hq
 have hy : RowKit.Below w.drew.heap.size w.drew w.drew:=RowKit.Below.refl _ _;have hD:=h.drew;refine yT 0 af rfl (by kernel_rfl) hy rfl (rfl) ?_;refine yT 1 af rfl (by kernel_rfl) hy rfl (rfl) ?_;refine yT 2 af rfl (by kernel_rfl) hy rfl (rfl) ?_;refine yL 3 af rfl (by kernel_rfl) hy rfl rfl (hD.r.xcell (i:=1) rfl (j:=2) rfl) ?_;refine yT 4 af rfl (by kernel_rfl) hy rfl (rfl) ?_;refine yT 5 af rfl (by kernel_rfl) hy rfl (rfl) ?_;refine yT 6 af rfl (by kernel_rfl) hy rfl (rfl) ?_;refine yT 7 af rfl (by kernel_rfl) hy rfl (rfl) ?_;refine yL 8 af rfl (by kernel_rfl) hy rfl rfl (hD.r.xcell (i:=1) rfl (j:=3) rfl) ?_;refine yT 9 af rfl (by kernel_rfl) hy rfl (rfl) ?_;refine yT 10 af rfl (by kernel_rfl) hy rfl (exI _ (anI (rfl) (anI ((by rw [hD.r.lenV (i:=4) rfl]; exact ht)) rfl))) ?_;refine bo 11 (by kernel_rfl) (ew 11 af rfl rfl rfl ?_);refine anI rfl (anI rfl (anI ⟨_,hD.r.cN (i:=4) rfl ht⟩ (anI (hD.r.free (i:=4) rfl _) (anI (.inl (by kernel_rfl)) ?_))));exact iq (by kernel_rfl) ⟨rfl,rfl,rfl,rfl,rfl,rfl,rfl,rfl,trivial⟩ (hD.storeN (i:=4) rfl t _)
theorem fill4 (a b c d : Value) (cs : Array Value) (hs : cs.size = 4) : Instr.fill (fun i=>some (i * 4,4)) (madeCells cs 4) [(0,.agg #[a,b,c,d])] = some #[a,b,c,d]:=by
 have h : (Value.agg #[a,b,c,d]).cells = #[a,b,c,d]:=rfl;simp [Instr.fill,madeCells,h,hs,Array.range,Array.foldl];rfl
theorem aex (h : Hold base w0 w (bX B x :: (ptR b p ⟨vst,vpl,vbl,Vs gbs lbs cbs,vcs,vml⟩ ++ rest))) (hN : p.bs.length ≤ 1000000000) {Q : Exit → Act → World → Prop} {a : Act} {ops : Array Oper} {id : Nat} (hops : Sym.da Tryz.f68.body 16 = some (id,ops))
  (hS : St Tryz.f68.ntmps a [(0,Vp b),(11,vml),(12,Vi n),(13,Vi k),(5,Vp B)])
  (hq : ∀ vbs' a' w',St Tryz.f68.ntmps a' [(0,Vp b),(11,vml),(12,Vi n),(13,Vi k)] → Hold base w0 w' (bX B x :: (ptR b { p with bs:=p.bs ++ [x] } ⟨vst,vpl,vbl,vbs',vcs,vml⟩ ++ rest)) → Q .normal a' w') : (Code.region id ops true).wp Tryz.prog Q a w:=by
 cases hops
 refine ep (α:=Value) 7 (fun _=>[(0,Vp b),(11,vml),(12,Vi n),(13,Vi k)]) (fun vbs' w'=>Hold base w0 w' (bX B x :: (ptR b { p with bs:=p.bs ++ [x] } ⟨vst,vpl,vbl,vbs',vcs,vml⟩ ++ rest))) dc hS ?_ hq
 have hy : RowKit.Below w.drew.heap.size w.drew w.drew:=RowKit.Below.refl _ _;have hD:=h.drew;refine yG 0 af rfl (by kernel_rfl) (.inr hy) rfl rfl ?_;refine yT 1 af rfl (by kernel_rfl) hy rfl (rfl) ?_;refine yT 2 af rfl (by kernel_rfl) hy rfl (rfl) ?_;refine yT 3 af rfl (by kernel_rfl) hy rfl (rfl) ?_;refine yL 4 af rfl (by kernel_rfl) hy rfl rfl (hD.r.xcell (i:=1) rfl (j:=3) rfl) ?_;refine yT 5 af rfl (by kernel_rfl) hy rfl (exI ([Vi x.first,Vi x.size,Vi x.marked,Vi x.parent]) (anI rfl (anI (⟨hD.r.xcell (i:=0) rfl (j:=0) rfl,hD.r.xcell (i:=0) rfl (j:=1) rfl,hD.r.xcell (i:=0) rfl (j:=2) rfl,hD.r.xcell (i:=0) rfl (j:=3) rfl,trivial⟩) rfl))) ?_;refine bo 6 (by kernel_rfl) (y_op 6 af rfl rfl rfl rfl ?_);refine exI [(0,.agg #[Vi x.first,Vi x.size,Vi x.marked,Vi x.parent])] (exI #[Vi x.first,Vi x.size,Vi x.marked,Vi x.parent] (anI (anI rfl rfl) (anI (by decide) (anI (fill4 _ _ _ _ _ rfl) ?_))));have hy1:=hy.alloc (Nat.le_refl _) (.cells #[Vi x.first,Vi x.size,Vi x.marked,Vi x.parent] 102);refine anI (.inr hy1) ?_;have h1:=hD.alloc (.cells #[Vi x.first,Vi x.size,Vi x.marked,Vi x.parent] 102)
 have ask : AppAsk (w.drew.alloc (.cells #[Vi x.first,Vi x.size,Vi x.marked,Vi x.parent] 102)) ⟨102,.struct [(0,3),(1,3),(2,3),(3,3)],4,32,.agg #[Vi 0,Vi 0,Vi 0,Vi 0]⟩ (Vs gbs lbs cbs) p.bs.length (dt p.bs) (Vs w.drew.heap.size 1 1) 1 [Vi x.first,Vi x.size,Vi x.marked,Vi x.parent] base:=
  ⟨h1.r.1 5 _ rfl,.inr ⟨_,0,_,rfl,ax rfl,ax rfl,ax rfl,ax rfl,trivial⟩,rfl,(by simp [Value.oneCell']),(by omega),(by show (p.bs.length + 1) * 32 ≤ _; omega),h1.s⟩
 refine bo 7 (by kernel_rfl) (y_op 7 af rfl rfl rfl rfl ?_);refine exI _ (exI _ (exI _ (exI _ (exI _ (anI (ask) (anI (fun _ h=>h.symm) (anI (by decide) ?_)))))));rintro v' w2 hown hgr - hat;refine anI (.inl (by kernel_rfl)) ?_;have h2:=h1.appK (i:=5) rfl hown hgr hat;obtain ⟨g2,n2,c2,hv⟩:=df hown;subst hv;refine yG 8 af rfl (by kernel_rfl) (.inl (by kernel_rfl)) rfl rfl ?_;refine yG 9 af rfl (by kernel_rfl) (.inl (by kernel_rfl)) rfl rfl ?_;refine bo 10 (by kernel_rfl) (ew 10 af rfl rfl rfl ?_);refine anI rfl (anI rfl (anI ⟨_,h2.r.xcell (i:=1) rfl (j:=3) rfl⟩ (anI (h2.r.free (i:=1) rfl 3) (anI (.inl (by kernel_rfl)) ?_))));exact fc (.slice g2 n2 c2) (by kernel_rfl) ⟨rfl,rfl,rfl,rfl,trivial⟩ (h2.xstore (i:=1) rfl 3 (.slice g2 n2 c2))
end
theorem we (q : Pt) (old : Nat) : (q.splitOne old).ml = q.ml ∧ (q.splitOne old).cs = q.cs ∧ (q.splitOne old).st = q.st ∧ (q.splitOne old).pl = q.pl:=by
 by_cases h : (gb q.bs old).marked = (gb q.bs old).size
 ·simp only [Pt.splitOne,if_pos h,and_self]
 ·simp only [Pt.splitOne,if_neg h,and_self]
theorem s4 : ∀ (l : List Nat) (q : Pt),(l.foldl Pt.splitOne q).ml = q.ml ∧ (l.foldl Pt.splitOne q).cs = q.cs ∧ (l.foldl Pt.splitOne q).st = q.st ∧ (l.foldl Pt.splitOne q).pl = q.pl
 | [],q=>⟨rfl,rfl,rfl,rfl⟩
 | o :: r,q=>by
   have h1:=s4 r (q.splitOne o);have h2:=we q o;exact ⟨h1.1.trans h2.1,h1.2.1.trans h2.2.1,h1.2.2.1.trans h2.2.2.1,h1.2.2.2.trans h2.2.2.2⟩
theorem m7 (a b : Nat) : decide ((a : Int) = (b : Int)) = decide (a = b):=by
 rw [Bool.eq_iff_iff]; simp; omega
theorem akg (a b : Nat) : decide ((b : Int) ≤ (a : Int)) = decide (b ≤ a):=by
 rw [Bool.eq_iff_iff]; simp
theorem co (a b : Nat) : decide ((a : Int) < (b : Int)) = decide (a < b):=by
 rw [Bool.eq_iff_iff]; simp
section
variable {base : Nat} {w0 w : World} {b : Nat} {p : Pt} {N s : Nat} {rest : List Ow}
def ahy (base : Nat) (w0 : World) (b : Nat) (vml : Value) (n k : Nat) (q : Pt) (rest : List Ow) (a : Act) (w : World) : Prop:=
 ∃ vst vpl vbl vbs vcs,St Tryz.f68.ntmps a [(0,Vp b),(11,vml),(12,Vi n),(13,Vi k)] ∧ Hold base w0 w (ptR b q ⟨vst,vpl,vbl,vbs,vcs,vml⟩ ++ rest)
theorem x8 (h : du base w0 w b p rest) (hp : PI p N p.ml) (hlow : p.low ≤ p.bs.length) (hcs : 0 < p.cs.length) (hcl : p.cs.length ≤ 100000000) (hN : N ≤ 100000000) :
  Calls Tryz.prog 68 #[Vp b] w fun e w'=>e = .returned (.tuple #[]) ∧ du base w0 w' b p.split rest:=by
 obtain ⟨⟨vst,vpl,vbl,vbs,vcs,vml⟩,h⟩:=h;refine Sym.c8 (args:=[Vp b]) Tryz.func68 rfl rfl rfl (fun a0 hS0=>?_);obtain ⟨gml,cml,rfl,hcml⟩:=h.r.any (i:=6) rfl;obtain ⟨vml,hvml⟩ : ∃ v,v = Value.slice gml p.ml.length cml:=⟨_,rfl⟩;obtain ⟨n,hn⟩ : ∃ n,n = p.ml.length:=⟨_,rfl⟩;refine wp_seq (wp_seq (ai [(0,Vp b),(11,vml),(12,Vi n),(13,Vi (0 : Nat))] (· = w) af hS0 ?_ (fun a w1 hS hw=>?_)))
 ·subst hvml; subst hn
  repeat refine zX rfl ?_
  refine zL rfl (h.r.xcell (i:=0) rfl (j:=5) rfl) ?_
  repeat refine zX rfl ?_
  exact aj ⟨⟨rfl,rfl,rfl,rfl,trivial⟩,rfl⟩
 subst hw;rw [← hvml] at h
 refine wp_block (cz hS (fun g E w'=>∃ (k : Nat) (V : PV),k ≤ n ∧ g = n - k ∧ E = [(0,Vp b),(11,vml),(12,Vi n),(13,Vi k)] ∧ PI ((p.ml.take k).foldl Pt.splitOne p) N (p.ml.drop k) ∧ PH p ((p.ml.take k).foldl Pt.splitOne p) N ∧ V.ml = vml ∧ Hold base w0 w' (ptR b ((p.ml.take k).foldl Pt.splitOne p) V ++ rest)) n
  ⟨0,_,by omega,by omega,rfl,by simpa using hp,PH.refl _ _,rfl,h⟩ ?_)
 rintro g E w2 a ⟨k,⟨vst,vpl,vbl,vbs,vcs,vml'⟩,hk,rfl,rfl,hPI,hPH,hml,h⟩ hS;simp only at hml;subst hml;refine wp_seq (ai [(0,Vp b),(11,vml'),(12,Vi n),(13,Vi k),(14,.bool (decide (k < n)))] (· = w2) af hS ?_ (fun a w3 hS hw=>?_))
 ·repeat refine zX rfl ?_
  refine zC rfl (co _ _) ?_
  repeat refine zX rfl ?_
  exact aj ⟨⟨rfl,rfl,rfl,rfl,rfl,trivial⟩,rfl⟩
 subst hw;refine wp_seq (cond hS rfl (fun hT=>?_) (fun hF=>?_))
 rotate_left
 ·have hkn : k = n:=by have:=of_decide_eq_false hF; omega
  subst hkn;subst hn;rw [List.take_length] at hPI hPH h;refine wp_exit ?_
  repeat first|refine bf ?_|refine ba ?_|refine az rfl ?_
  obtain ⟨f1,f2,f3,f4⟩:=s4 p.ml p;subst hvml;refine ai [] (fun w4=>du base w0 w4 b p.split rest) af hS ?_ (fun a w4 hS hw=>ret0 hS rfl ⟨rfl,hw⟩)
  repeat refine zX rfl ?_
  refine zL rfl (h.r.xcell (i:=0) rfl (j:=5) rfl) ?_;refine b8 rfl rfl rfl (exI 0 (exI 0 (anI rfl (anI ⟨_,_,rfl,rfl⟩ (anI (Nat.le_refl _) (anI (Nat.zero_le _) (anI hcml.1 ?_)))))));obtain ⟨u,hu⟩ : ∃ u,u = (Value.slice (if cml = 0 then gml else gml.map (·.add (0 * 1))) (0 - 0) (cml - 0)):=⟨_,rfl⟩
  have hrow : w3.ownsRow base 3 1 u 0 [] ∧ u.ownBlock = (Value.slice gml p.ml.length cml).ownBlock:=by
   have hr:=h.r.1 6 _ rfl
   have hu2 : u = .slice gml 0 cml:=by
    rw [hu]
    split
    ·rename_i e; subst e; rfl
    ·cases gml <;> simp [Addr.add]
   rw [hu2]
   rcases hr.2 with ⟨e1,e2⟩ | ⟨g',cap,cur,e1,e2,e3,e4,e5,e6,_⟩
   ·simp only [Value.slice.injEq] at e1;obtain ⟨rfl,_,rfl⟩:=e1;exact ⟨⟨rfl,.inl ⟨rfl,rfl⟩⟩,rfl⟩
   ·simp only [Value.slice.injEq] at e1;obtain ⟨rfl,_,rfl⟩:=e1;exact ⟨⟨rfl,.inr ⟨g',cml,cur,rfl,e2,e3,Nat.zero_le _,e5,e6,by simp⟩⟩,rfl⟩
  have hg : w3.grownBy w3 (Value.slice gml p.ml.length cml).ownBlock:=⟨rfl,rfl,rfl,Nat.le_refl _,fun _ _ _=>rfl⟩
  have h4 : Hold base w0 w3 ((ptR b (p.ml.foldl Pt.splitOne p) ⟨vst,vpl,vbl,vbs,vcs,Value.slice gml p.ml.length cml⟩ ++ rest).set 6 ⟨u,3,1,0,[]⟩):=
   ⟨h.r.turn (i:=6) rfl hg hrow.1 (.inl hrow.2),h.b,h.s⟩
  clear hrow;refine cast (congrArg (fun v=>opsK _ _ _ _ _ _ ((112,v) :: _) _) hu) ?_;have hun : ∃ g m c,u = .slice g m c:=⟨_,_,_,hu⟩;clear hu;obtain ⟨gu,mu,cu,rfl⟩:=hun
  repeat refine zX rfl ?_
  refine zS rfl rfl (h4.r.xcell (i:=0) rfl (j:=5) rfl) (h4.r.free (i:=0) rfl 5) ?_;exact aj ⟨trivial,⟨vst,vpl,vbl,vbs,vcs,Value.slice gu mu cu⟩,h4.xstore (i:=0) rfl 5 (Value.slice gu mu cu)⟩
 have hkn : k < n:=of_decide_eq_true hT;refine wp_skip ?_;obtain ⟨q,hq⟩ : ∃ q,q = (p.ml.take k).foldl Pt.splitOne p:=⟨_,rfl⟩;rw [← hq] at hPI hPH h;have hsame:=s4 (p.ml.take k) p;rw [← hq] at hsame;obtain ⟨f1,f2,f3,f4⟩:=hsame;have hkl : k < p.ml.length:=by omega
 obtain ⟨old,hold⟩ : ∃ old,old = p.ml[k]:=⟨_,rfl⟩;have hgo : gt q.ml k = old:=by rw [f1,hold]; simp [gt,List.getD_eq_getElem?_getD,hkl]
 rw [List.drop_eq_getElem_cons hkl,← hold] at hPI;have hob:=((hPI.tm old).1 (by simp)).1;have hbd:=hPI.bd old hob;have hml0:=((hPI.tm old).1 (by simp)).2;have hfew:=hPI.few;have hN0 : 0 < N:=by omega
 have hl1:=hPI.st;have hl3:=hPI.bl
 have hqlow : q.low ≤ q.bs.length:=by
  have : q.low = p.low:=by unfold Pt.low; rw [f2]
  rw [this]; exact Nat.le_trans hlow hPH.len
 obtain ⟨gm,cm,rfl,-⟩:=h.r.nilOr (i:=6) rfl (by rw [f1]; omega);obtain ⟨gbs,cbs,rfl,-⟩:=h.r.nilOr (i:=4) rfl (by omega);obtain ⟨gbl,cbl,rfl,-⟩:=h.r.nilOr (i:=3) rfl (by omega);obtain ⟨gst,cst,rfl,hcst⟩:=h.r.nilOr (i:=1) rfl (by omega);obtain ⟨gcs,ccs,rfl,-⟩:=h.r.nilOr (i:=5) rfl (by rw [f2]; omega);obtain ⟨vml,hvm⟩ : ∃ v,v = Vs gm q.ml.length cm:=⟨_,rfl⟩;refine wp_seq (cut (F:=ahy base w0 b (Vs gm q.ml.length cm) n k (q.splitOne old) rest) ?_ ?_)
 ·refine wp_block (wp_seq (ai [(0,Vp b),(11,Vs gm q.ml.length cm),(12,Vi n),(13,Vi k),(3,Vi old)] (· = w3) af hS ?_ (fun a w4 hS hw=>?_)))
  ·have hc:=h.r.cN (i:=6) rfl (j:=k) (by rw [f1]; omega);rw [hgo] at hc
   repeat refine zX rfl ?_
   refine zI rfl (rfl) ((by rw [f1]; omega)) ?_;refine zL rfl (hc) ?_
   repeat refine zX rfl ?_
   exact aj ⟨⟨rfl,rfl,rfl,rfl,rfl,trivial⟩,rfl⟩
  subst hw;rw [← hvm] at h hS ⊢;refine wp_seq (ai [(0,Vp b),(11,vml),(12,Vi n),(13,Vi k),(3,Vi old),(4,.pointer (some ⟨gbs,0 + old * 4,none⟩))] (· = w4) af hS ?_ (fun a w5 hS hw=>?_))
  ·repeat refine zX rfl ?_
   refine zL rfl (h.r.xcell (i:=0) rfl (j:=3) rfl) ?_
   repeat refine zX rfl ?_
   refine zI rfl (rfl) (hob) ?_
   repeat refine zX rfl ?_
   exact aj ⟨⟨rfl,rfl,rfl,rfl,rfl,rfl,trivial⟩,rfl⟩
  subst hw;refine wp_seq (aie h hob (by rfl) hS (fun B a w6 hS h=>?_));refine wp_seq (ai [(0,Vp b),(11,vml),(12,Vi n),(13,Vi k),(3,Vi old),(4,.pointer (some ⟨gbs,0 + old * 4,none⟩)),(5,Vp B)] (fun w7=>Hold base w0 w7 (bX B ⟨(gb q.bs old).first,(gb q.bs old).marked,0,old⟩ :: (ptR b { q with bs:=q.bs.set old { gb q.bs old with marked:=0 } } ⟨Vs gst q.st.length cst,vpl,Vs gbl q.bl.length cbl,Vs gbs q.bs.length cbs,Vs gcs q.cs.length ccs,vml⟩ ++ rest))) af hS ?_ (fun a w7 hS h=>?_))
  ·repeat refine zX rfl ?_
   refine zS rfl rfl (h.r.cK2 (i:=5) rfl hob) (h.r.free (i:=5) rfl _) ?_;exact aj ⟨⟨rfl,rfl,rfl,rfl,rfl,rfl,rfl,trivial⟩,h.storeK2 (i:=5) rfl old 0⟩
  have gself : ∀ x,gb (q.bs.set old x) old = x:=fun x=>by rw [qy,if_pos ⟨rfl,hob⟩]
  have hob' : ∀ x : Blk,old < (q.bs.set old x).length:=fun x=>by rw [List.length_set]; exact hob
  refine wp_seq (wp_seq (b6 [(0,Vp b),(11,vml),(12,Vi n),(13,Vi k),(3,Vi old),(4,.pointer (some ⟨gbs,0 + old * 4,none⟩)),(5,Vp B),(42,.bool (decide ((gb q.bs old).marked = (gb q.bs old).size)))] af dc (by kernel_rfl) hS ?_ (fun a w8 hS hw=>?_)))
  ·have hcmp : decide (((gb q.bs old).marked : Int) = (((gb (q.bs.set old { gb q.bs old with marked:=0 }) old).size : Nat) : Int)) = decide ((gb q.bs old).marked = (gb q.bs old).size):=by rw [gself]; exact m7 _ _
   repeat refine qX rfl ?_
   refine qL rfl (h.r.xcell (i:=0) rfl (j:=1) rfl) ?_
   repeat refine qX rfl ?_
   refine qL rfl (h.r.cK1 (i:=5) rfl (hob' _)) ?_;refine qC rfl (hcmp) ?_
   repeat refine qX rfl ?_
   exact fa ⟨rfl,rfl,rfl,rfl,rfl,rfl,rfl,rfl,trivial⟩
  replace h:=h.below hw;clear hw;refine cond hS rfl (fun hT=>?_) (fun hF=>?_)
  ·have hall:=of_decide_eq_true hT;refine wp_exit ?_
   repeat first|refine bf ?_|refine ba ?_|refine az rfl ?_
   have e : q.splitOne old = { q with bs:=q.bs.set old { gb q.bs old with marked:=0 } }:=by simp only [Pt.splitOne,if_pos hall]
   show ahy base w0 b vml n k (q.splitOne old) rest a w8;rw [e];exact ⟨_,_,_,_,_,hS.sub ⟨rfl,rfl,rfl,rfl,trivial⟩,h.tail⟩
  have hne:=of_decide_eq_false hF;refine wp_skip ?_;obtain ⟨par,hpar⟩ : ∃ par,(if q.low ≤ old then (gb q.bs old).parent else old) = par:=⟨_,rfl⟩;have hlowc : q.cs.length - 1 < q.cs.length:=by rw [f2]; omega
  refine wp_seq (cut (F:=fun a' w'=>St Tryz.f68.ntmps a' [(0,Vp b),(11,vml),(12,Vi n),(13,Vi k),(3,Vi old),(4,.pointer (some ⟨gbs,0 + old * 4,none⟩)),(5,Vp B)] ∧ Hold base w0 w' (bX B ⟨(gb q.bs old).first,(gb q.bs old).marked,0,par⟩ :: (ptR b { q with bs:=q.bs.set old { gb q.bs old with marked:=0 } } ⟨Vs gst q.st.length cst,vpl,Vs gbl q.bl.length cbl,Vs gbs q.bs.length cbs,Vs gcs q.cs.length ccs,vml⟩ ++ rest))) ?_ ?_)
  ·refine wp_seq (b6 [(0,Vp b),(11,vml),(12,Vi n),(13,Vi k),(3,Vi old),(4,.pointer (some ⟨gbs,0 + old * 4,none⟩)),(5,Vp B),(52,.bool (decide (q.low ≤ old)))] af dc (by kernel_rfl) hS ?_ (fun a w9 hS hw=>?_))
   ·repeat refine qX rfl ?_
    refine qL rfl (h.r.xcell (i:=1) rfl (j:=4) rfl) ?_
    repeat refine qX rfl ?_
    refine qF (Vi (q.cs.length - 1 : Nat)) rfl (mz) (fun w1 h1=>kd (p:={ q with bs:=q.bs.set old { gb q.bs old with marked:=0 } }) (h.below h1).tail (by show 0 < q.cs.length; omega) (by show q.cs.length ≤ _; rw [f2]; omega)) ?_
    repeat refine qX rfl ?_
    refine qI rfl (rfl) (hlowc) ?_;refine qL rfl (h.r.cN (i:=6) rfl hlowc) ?_;refine qC rfl (akg _ _) ?_
    repeat refine qX rfl ?_
    exact fa ⟨rfl,rfl,rfl,rfl,rfl,rfl,rfl,rfl,trivial⟩
   replace h:=h.below hw;refine cond hS rfl (fun hT=>?_) (fun hF=>?_)
   ·rw [if_pos (of_decide_eq_true hT)] at hpar;refine ai [(0,Vp b),(11,vml),(12,Vi n),(13,Vi k),(3,Vi old),(4,.pointer (some ⟨gbs,0 + old * 4,none⟩)),(5,Vp B)] (fun w'=>Hold base w0 w' (bX B ⟨(gb q.bs old).first,(gb q.bs old).marked,0,par⟩ :: (ptR b { q with bs:=q.bs.set old { gb q.bs old with marked:=0 } } ⟨Vs gst q.st.length cst,vpl,Vs gbl q.bl.length cbl,Vs gbs q.bs.length cbs,Vs gcs q.cs.length ccs,vml⟩ ++ rest))) af hS ?_ (fun a' w' hS h=>⟨hS,h⟩)
    have hc:=h.r.cK3 (i:=5) rfl (hob' _);dsimp only at hc;rw [gself] at hc;simp only [hpar] at hc
    repeat refine zX rfl ?_
    refine zL rfl (hc) ?_
    repeat refine zX rfl ?_
    refine zS rfl rfl (h.r.xcell (i:=0) rfl (j:=3) rfl) (h.r.free (i:=0) rfl 3) ?_;exact aj ⟨⟨rfl,rfl,rfl,rfl,rfl,rfl,rfl,trivial⟩,h.xstore (i:=0) rfl 3 (Vi par)⟩
   ·rw [if_neg (of_decide_eq_false hF)] at hpar;subst hpar;exact wp_skip ⟨hS.sub ⟨rfl,rfl,rfl,rfl,rfl,rfl,rfl,trivial⟩,h⟩
  clear h hS;rintro a w9 ⟨hS,h⟩;refine wp_seq (aid h (by simpa using hob) (by simp only [qy,hob,and_self,if_true]; omega) (by rfl) hS (fun a w10 hS h=>?_));refine wp_seq (aez h (by simpa using hob) (by simp only [qy,List.length_set,hob,and_self,if_true]; omega) (by simp only [qy,List.length_set,hob,and_self,if_true]; omega) (by rfl) hS (fun a w11 hS h=>?_))
  have hbs2 : ((q.bs.set old { gb q.bs old with marked:=0 }).set old { gb (q.bs.set old { gb q.bs old with marked:=0 }) old with first:=(gb (q.bs.set old { gb q.bs old with marked:=0 }) old).first + (gb q.bs old).marked }).set old { gb ((q.bs.set old { gb q.bs old with marked:=0 }).set old { gb (q.bs.set old { gb q.bs old with marked:=0 }) old with first:=(gb (q.bs.set old { gb q.bs old with marked:=0 }) old).first + (gb q.bs old).marked }) old with size:=(gb ((q.bs.set old { gb q.bs old with marked:=0 }).set old { gb (q.bs.set old { gb q.bs old with marked:=0 }) old with first:=(gb (q.bs.set old { gb q.bs old with marked:=0 }) old).first + (gb q.bs old).marked }) old).size - (gb q.bs old).marked } =
    q.bs.set old ⟨(gb q.bs old).first + (gb q.bs old).marked,(gb q.bs old).size - (gb q.bs old).marked,0,(gb q.bs old).parent⟩:=by
   simp only [List.set_set,gself]
  obtain ⟨bs2,hbs2'⟩ : ∃ bs2,bs2 = q.bs.set old ⟨(gb q.bs old).first + (gb q.bs old).marked,(gb q.bs old).size - (gb q.bs old).marked,0,(gb q.bs old).parent⟩:=⟨_,rfl⟩;have hlen2 : bs2.length = q.bs.length:=by rw [hbs2',List.length_set]
  have h2 : Hold base w0 w11 (bX B ⟨(gb q.bs old).first,(gb q.bs old).marked,0,par⟩ :: (ptR b { q with bs:=bs2 } ⟨Vs gst q.st.length cst,vpl,Vs gbl q.bl.length cbl,Vs gbs q.bs.length cbs,Vs gcs q.cs.length ccs,vml⟩ ++ rest)):=by
   rw [hbs2',← hbs2];exact h
  clear h hbs2;have h:=h2;clear h2;obtain ⟨m,hm⟩ : ∃ m,m = (gb q.bs old).marked:=⟨_,rfl⟩;obtain ⟨fs,hfs⟩ : ∃ fs,fs = (gb q.bs old).first:=⟨_,rfl⟩;rw [← hm,← hfs] at h;rw [← hm,← hfs] at hbd;rw [← hm] at hml0 hne;obtain ⟨vm,hvmm⟩ : ∃ v,v = Value.slice (some ⟨gst,fs,none⟩) m (cst - fs):=⟨_,rfl⟩;refine wp_seq (wp_seq (ai [(0,Vp b),(11,vml),(12,Vi n),(13,Vi k),(5,Vp B),(78,vm),(79,Vi m),(80,Vi (0 : Nat))] (fun w'=>Hold base w0 w' (bX B ⟨fs,m,0,par⟩ :: (ptR b { q with bs:=bs2 } ⟨Vs gst q.st.length cst,vpl,Vs gbl q.bl.length cbl,Vs gbs q.bs.length cbs,Vs gcs q.cs.length ccs,vml⟩ ++ rest))) af hS ?_ (fun a w12 hS h=>?_)))
  ·repeat refine zX rfl ?_
   refine zA ([Vi fs,Vi m,Vi (0 : Nat),Vi par]) rfl rfl (⟨h.r.xcell (i:=0) rfl (j:=0) rfl,h.r.xcell (i:=0) rfl (j:=1) rfl,h.r.xcell (i:=0) rfl (j:=2) rfl,h.r.xcell (i:=0) rfl (j:=3) rfl,trivial⟩) ?_;refine zF rfl (vk) (sh (p:={ q with bs:=bs2 }) h.tail (k:=m) (by omega) (by dsimp only; omega) (by dsimp only; omega)) ?_
   rintro e w13 ⟨rfl,hw⟩;refine ⟨_,rfl,?_⟩
   repeat refine zX rfl ?_
   subst hvmm;exact aj ⟨⟨rfl,rfl,rfl,rfl,rfl,rfl,rfl,rfl,trivial⟩,h.below hw⟩
  have hlb : q.bs.length = bs2.length:=hlen2.symm
  refine wp_block (cz hS (fun g E w'=>∃ j : Nat,j ≤ m ∧ g = m - j ∧ E = [(0,Vp b),(11,vml),(12,Vi n),(13,Vi k),(5,Vp B),(78,vm),(79,Vi m),(80,Vi j)] ∧ Hold base w0 w' (bX B ⟨fs,m,0,par⟩ :: (ptR b { q with bs:=bs2,bl:=dj q.st q.bs.length q.bl fs j } ⟨Vs gst q.st.length cst,vpl,Vs gbl q.bl.length cbl,Vs gbs q.bs.length cbs,Vs gcs q.cs.length ccs,vml⟩ ++ rest))) m
   ⟨0,by omega,by omega,rfl,h⟩ ?_)
  clear h hS;rintro g E w13 a ⟨j,hj,rfl,rfl,h⟩ hS;refine wp_seq (ai [(0,Vp b),(11,vml),(12,Vi n),(13,Vi k),(5,Vp B),(78,vm),(79,Vi m),(80,Vi j),(81,.bool (decide (j < m)))] (· = w13) af hS ?_ (fun a w14 hS hw=>?_))
  ·repeat refine zX rfl ?_
   refine zC rfl (co _ _) ?_
   repeat refine zX rfl ?_
   exact aj ⟨⟨rfl,rfl,rfl,rfl,rfl,rfl,rfl,rfl,rfl,trivial⟩,rfl⟩
  subst hw;refine wp_seq (cond hS rfl (fun hT=>wp_skip ?_) (fun hF=>?_))
  rotate_left
  ·have hjm : j = m:=by have:=of_decide_eq_false hF; omega
   subst hjm;refine wp_exit ?_
   repeat first|refine bf ?_|refine ba ?_|refine az rfl ?_
   refine aex h (by dsimp only; omega) (by rfl) (hS.sub ⟨rfl,rfl,rfl,rfl,rfl,trivial⟩) (fun vbs' a w15 hS h=>?_)
   have e : q.splitOne old = { q with bs:=bs2 ++ [⟨fs,j,0,par⟩],bl:=dj q.st q.bs.length q.bl fs j }:=by
    simp only [Pt.splitOne,← hm,← hfs,if_neg hne,hpar,hbs2']
   refine ay ?_;show ahy base w0 b vml n k (q.splitOne old) rest a w15;rw [e];exact ⟨_,_,_,_,_,hS,h.tail⟩
  have hjm : j < m:=of_decide_eq_true hT;have hsp:=(hPI.sp (fs + j) (by omega)).1;refine wp_seq (wp_block (wp_seq (ai [(0,Vp b),(11,vml),(12,Vi n),(13,Vi k),(5,Vp B),(78,vm),(79,Vi m),(80,Vi j),(7,.int .i32 (gt q.st (fs + j) : Int))] (· = w14) af hS ?_ (fun a w15 hS hw=>?_))))
  ·have hc:=h.r.cS (i:=2) rfl (j:=fs + j) (by dsimp only; omega);rw [Nat.zero_add] at hc;subst hvmm
   repeat refine zX rfl ?_
   refine zI rfl (rfl) (hjm) ?_;refine zL rfl (hc) ?_
   repeat refine zX rfl ?_
   exact aj ⟨⟨rfl,rfl,rfl,rfl,rfl,rfl,rfl,rfl,rfl,trivial⟩,rfl⟩
  subst hw;refine aey h (by dsimp only; rw [nu,hl3]; exact hsp) (by rfl) hS (fun a w16 hS h=>?_);refine ay ?_;refine ai [(0,Vp b),(11,vml),(12,Vi n),(13,Vi k),(5,Vp B),(78,vm),(79,Vi m),(80,Vi (j + 1 : Nat))] (· = w16) af hS ?_ (fun a w17 hS hw=>?_)
  ·repeat refine zX rfl ?_
   refine zN rfl (bm _ 1 (by omega)) ?_
   repeat refine zX rfl ?_
   exact aj ⟨⟨rfl,rfl,rfl,rfl,rfl,rfl,rfl,rfl,trivial⟩,rfl⟩
  subst hw;refine ⟨m - (j + 1),_,by omega,⟨j + 1,by omega,rfl,rfl,?_⟩,hS⟩;rw [qx];exact h
 clear h hS;rintro a w4 ⟨vst,vpl,vbl,vbs,vcs,hS,h⟩;refine ai [(0,Vp b),(11,Vs gm q.ml.length cm),(12,Vi n),(13,Vi (k + 1 : Nat))] (· = w4) af hS ?_ (fun a w5 hS hw=>?_)
 ·repeat refine zX rfl ?_
  refine zN rfl (bm _ 1 (by omega)) ?_
  repeat refine zX rfl ?_
  exact aj ⟨⟨rfl,rfl,rfl,rfl,trivial⟩,rfl⟩
 subst hw
 have hfold : (p.ml.take (k + 1)).foldl Pt.splitOne p = q.splitOne old:=by
  rw [List.take_succ_eq_append_getElem hkl,List.foldl_append,← hq,← hold]; rfl
 obtain ⟨h1,h2,h3,h4⟩:=rm hqlow hPI;refine ⟨n - (k + 1),_,by omega,⟨k + 1,⟨vst,vpl,vbl,vbs,vcs,Vs gm q.ml.length cm⟩,by omega,rfl,rfl,?_,?_,rfl,?_⟩,hS⟩
 ·rw [hfold]; exact h1
 ·rw [hfold]; exact hPH.trans hlow h4
 ·rw [hfold]; exact h
end
end
section
open Go Sym
theorem aa4 : bk Tryz.prog 70 = true:=by kernel_rfl
theorem y3 : bk Tryz.prog 73 = true:=by kernel_rfl
theorem acl : bk Tryz.prog 37 = true:=by kernel_rfl
theorem ajh : bk Tryz.prog 66 = true:=by kernel_rfl
theorem aci : bk Tryz.prog 68 = true:=by kernel_rfl
theorem gt_nat (a b : Nat) : decide ((b : Int) < (a : Int)) = decide (b < a):=co b a
theorem af5 (a b : Nat) : decide ((a : Int) ≠ (b : Int)) = decide (a ≠ b):=by
 rw [Bool.eq_iff_iff]; simp; omega
section
variable {base : Nat} {w0 w : World} {b : Nat} {p : Pt} {N s : Nat} {rest : List Ow}
theorem yx (h : du base w0 w b p rest) (hcs : 0 < p.cs.length) (hcl : p.cs.length ≤ 100000000) :
  Calls Tryz.prog 70 #[Vp b] w fun e w'=>e = .returned (.bool (decide (p.low < p.bs.length))) ∧ du base w0 w' b p.endR rest:=by
 obtain ⟨⟨vst,vpl,vbl,vbs,vcs,vml⟩,h⟩:=h;refine Sym.c8 (args:=[Vp b]) Tryz.func70 rfl rfl rfl (fun a0 hS0=>?_);obtain ⟨gcs,ccs,rfl,-⟩:=h.r.nilOr (i:=5) rfl hcs;obtain ⟨gbs,cbs,rfl,-⟩:=h.r.any (i:=4) rfl;refine wp_seq (ai [(0,Vp b)] (· = w) af hS0 ?_ (fun a w1 hS hw=>?_))
 ·repeat refine zX rfl ?_
  exact aj ⟨⟨rfl,trivial⟩,rfl⟩
 subst hw;refine wp_seq (ep (α:=Value) 11 (fun _=>[(0,Vp b)]) (fun vcs' w'=>Hold base w0 w' (ptR b p.endR ⟨vst,vpl,vbl,.slice gbs p.bs.length cbs,vcs',vml⟩ ++ rest)) dc hS ?_ (fun vcs' a w2 hS h=>?_))
 ·have hy : RowKit.Below w1.drew.heap.size w1.drew w1.drew:=RowKit.Below.refl _ _;have hD:=h.drew;refine yG 0 af rfl (by kernel_rfl) (.inr hy) rfl rfl ?_;refine yT 1 af rfl (by kernel_rfl) hy rfl (rfl) ?_;refine yT 2 af rfl (by kernel_rfl) hy rfl (rfl) ?_;refine yT 3 af rfl (by kernel_rfl) hy rfl (rfl) ?_;refine yL 4 af rfl (by kernel_rfl) hy rfl rfl (hD.r.xcell (i:=0) rfl (j:=4) rfl) ?_;refine yT 5 af rfl (by kernel_rfl) hy rfl (rfl) ?_;refine yT 6 af rfl (by kernel_rfl) hy rfl (rfl) ?_;refine yT 7 af rfl (by kernel_rfl) hy rfl (rfl) ?_;refine yL 8 af rfl (by kernel_rfl) hy rfl rfl (hD.r.xcell (i:=0) rfl (j:=3) rfl) ?_;refine yT 9 af rfl (by kernel_rfl) hy rfl (rfl) ?_;refine bo 10 (by kernel_rfl) (y_op 10 af rfl rfl rfl rfl ?_);refine exI [(0,Vi ((p.bs.length : Int)))] (exI #[Vi ((p.bs.length : Int))] (anI (anI rfl rfl) (anI (by decide) (anI (jv _ _ _) ?_))));have hy1:=hy.alloc (Nat.le_refl _) (.cells #[Vi p.bs.length] 3);refine anI (.inr hy1) ?_;have h1:=hD.alloc (.cells #[Vi p.bs.length] 3)
  have ask : AppAsk (w1.drew.alloc (.cells #[Vi p.bs.length] 3)) ⟨3,.int .i64,1,8,Vi 0⟩ (Vs gcs p.cs.length ccs) p.cs.length (nats p.cs) (Vs w1.drew.heap.size 1 1) 1 [Vi p.bs.length] base:=
   ⟨h1.r.1 5 _ rfl,.inr ⟨_,0,_,rfl,ax rfl,trivial⟩,rfl,(by simp [Value.oneCell']),(by omega),(by show (p.cs.length + 1) * 8 ≤ _; omega),h1.s⟩
  refine bo 11 (by kernel_rfl) (y_op 11 af rfl rfl rfl rfl ?_);refine exI _ (exI _ (exI _ (exI _ (exI _ (anI (ask) (anI (fun _ h=>h.symm) (anI (by decide) ?_)))))));rintro v' w2 hown hgr - hat;refine anI (.inl (by kernel_rfl)) ?_;have h2:=h1.appN (i:=5) rfl hown hgr hat;obtain ⟨g2,n2,c2,hv⟩:=df hown;subst hv;refine yG 12 af rfl (by kernel_rfl) (.inl (by kernel_rfl)) rfl rfl ?_;refine yG 13 af rfl (by kernel_rfl) (.inl (by kernel_rfl)) rfl rfl ?_;refine bo 14 (by kernel_rfl) (ew 14 af rfl rfl rfl ?_);refine anI rfl (anI rfl (anI ⟨_,h2.r.xcell (i:=0) rfl (j:=4) rfl⟩ (anI (h2.r.free (i:=0) rfl 4) (anI (.inl (by kernel_rfl)) ?_))));exact fc (.slice g2 n2 c2) (by kernel_rfl) ⟨rfl,trivial⟩ (h2.xstore (i:=0) rfl 4 (.slice g2 n2 c2))
 have hl : p.endR.cs.length = p.cs.length + 1:=by simp [Pt.endR]
 obtain ⟨gc,cc,rfl,-⟩:=h.r.nilOr (i:=5) rfl (by rw [hl]; omega)
 have e1 : gt p.endR.cs (p.endR.cs.length - 1) = p.bs.length:=by
  rw [hl]; exact ace
 have e2 : gt p.endR.cs (p.endR.cs.length - 1 - 1) = p.low:=by
  rw [hl]; exact ago (by omega)
 have hi1 : p.endR.cs.length - 1 < p.endR.cs.length:=by omega
 have hi2 : p.endR.cs.length - 1 - 1 < p.endR.cs.length:=by omega
 refine wp_seq (b6 [(2,.bool (decide (p.low < p.bs.length)))] af dc (by kernel_rfl) hS ?_ (fun a w3 hS hw=>?_))
 ·have c1:=h.r.cN (i:=5) rfl hi1;have c2:=h.r.cN (i:=5) rfl hi2;rw [e1] at c1;rw [e2] at c2
  repeat refine qX rfl ?_
  refine qL rfl (h.r.xcell (i:=0) rfl (j:=4) rfl) ?_
  repeat refine qX rfl ?_
  refine qF (Vi (p.endR.cs.length - 1 : Nat)) rfl (mz) (fun w1 h1=>kd (h.below h1) (by omega) (by omega)) ?_;refine qI rfl (rfl) (hi1) ?_;refine qL rfl (c1) ?_
  repeat refine qX rfl ?_
  refine qL rfl (h.r.xcell (i:=0) rfl (j:=4) rfl) ?_
  repeat refine qX rfl ?_
  refine qF (Vi (p.endR.cs.length - 1 : Nat)) rfl (mz) (fun w1 h1=>kd (h.below h1) (by omega) (by omega)) ?_;refine qN rfl (qk _ 1 (by omega) (by omega)) ?_;refine qI rfl (rfl) (hi2) ?_;refine qL rfl (c2) ?_;refine qC rfl (co _ _) ?_
  repeat refine qX rfl ?_
  exact fa ⟨rfl,trivial⟩
 refine wp_ret ?_
 repeat first|refine a8 ?_|refine am ?_
 exact ret1 hS rfl rfl ⟨rfl,⟨_,h.below hw⟩⟩
def o4 (lev : Nat → Nat → Nat) (N R r : Nat) (bl : List Nat) : Prop:=bl.length = N ∧ ∀ s,s < N → ∃ q,r ≤ q ∧ q ≤ R ∧ gt bl s = lev q s
theorem o4.mono {lev : Nat → Nat → Nat} {R r r' : Nat} {bl : List Nat} (h : o4 lev N R r bl) (hr : r' ≤ r) : o4 lev N R r' bl:=⟨h.1,fun s hs=>by
 obtain ⟨q,h1,h2,h3⟩:=h.2 s hs;exact ⟨q,by omega,h2,h3⟩⟩
theorem o4.set {lev : Nat → Nat → Nat} {R r q : Nat} {bl : List Nat} (h : o4 lev N R r bl) (h1 : r ≤ q) (h2 : q ≤ R) : o4 lev N R r (bl.set s (lev q s)):=⟨by rw [List.length_set]; exact h.1,fun t ht=>by
 rw [fh]
 split
 ·rename_i e;rw [← e.1];exact ⟨q,h1,h2,rfl⟩
 ·exact h.2 t ht⟩
theorem u7 {L R r : Nat} {dl : Nat → Nat → Nat} {en : Nat → Bool} {lev : Nat → Nat → Nat} {bl : List Nat} (hL : Lev L dl en p N lev R) (hbl : o4 lev N R r bl) (hs : s < N) (hr : r ≤ R) (hN : N ≤ 100000000) (hbs : p.bs.length ≤ 100000000)
  (h : du base w0 w b { p with bl:=bl } rest) :
  Calls Tryz.prog 73 #[Vp b,Vi s,Vi r] w fun e w'=>e = .returned (Vi (lev r s : Int)) ∧ du base w0 w' b { p with bl:=bl.set s (lev r s) } rest:=by
 obtain ⟨⟨vst,vpl,vbl,vbs,vcs,vml⟩,h⟩:=h;refine Sym.c8 (args:=[Vp b,Vi s,Vi r]) Tryz.func73 rfl rfl rfl (fun a0 hS0=>?_);refine wp_seq (ai [(0,Vp b),(1,Vi s),(2,Vi r)] (· = w) af hS0 ?_ (fun a w1 hS hw=>?_))
 ·repeat refine zX rfl ?_
  exact aj ⟨⟨rfl,rfl,rfl,trivial⟩,rfl⟩
 subst hw;have hbl1:=hbl.1;have hcs:=hL.cs;obtain ⟨q0,hq1,hq2,hq3⟩:=hbl.2 s hs
 refine wp_seq (wp_block (cz hS (fun g E w'=>∃ (q : Nat) (V : PV),r ≤ q ∧ q ≤ R ∧ g = q ∧ E = [(0,Vp b),(1,Vi s),(2,Vi r)] ∧ Hold base w0 w' (ptR b { p with bl:=bl.set s (lev q s) } V ++ rest)) q0 ⟨q0,_,hq1,hq2,rfl,rfl,(by
  rw [← hq3]
  have : bl.set s (gt bl s) = bl:=by
   simp only [gt,List.getD_eq_getElem?_getD,List.getElem?_eq_getElem (show s < bl.length by omega),Option.getD_some,List.set_getElem_self]
  rw [this]; exact h)⟩ ?_))
 clear h hS;rintro g E w2 a ⟨q,⟨vst,vpl,vbl,vbs,vcs,vml⟩,h1,h2,rfl,rfl,h⟩ hS;have hlb : (bl.set s (lev g s)).length = N:=by rw [List.length_set]; exact hbl1
 obtain ⟨gbl,cbl,rfl,-⟩:=h.r.nilOr (i:=3) rfl (by dsimp only; omega);obtain ⟨gcs,ccs,rfl,-⟩:=h.r.nilOr (i:=5) rfl (by dsimp only; omega);have hg : gt (bl.set s (lev g s)) s = lev g s:=by rw [fh,if_pos ⟨rfl,by omega⟩]
 have hlt:=hL.lt g h2 s hs;have hcl:=hL.csLe h2;refine wp_seq (wp_seq (b6 [(0,Vp b),(1,Vi s),(2,Vi r),(21,.bool (decide (gt p.cs r ≤ lev g s)))] af dc (by kernel_rfl) hS ?_ (fun a w3 hS hw=>?_)))
 ·have c1:=h.r.cN (i:=3) rfl (j:=s) (by dsimp only; omega);dsimp only at c1;rw [hg] at c1
  repeat refine qX rfl ?_
  refine qL rfl (h.r.xcell (i:=0) rfl (j:=2) rfl) ?_
  repeat refine qX rfl ?_
  refine qI rfl (rfl) ((by dsimp only; omega)) ?_;refine qL rfl (c1) ?_
  repeat refine qX rfl ?_
  refine qL rfl (h.r.xcell (i:=0) rfl (j:=4) rfl) ?_
  repeat refine qX rfl ?_
  refine qI rfl (rfl) ((by dsimp only; omega)) ?_;refine qL rfl (h.r.cN (i:=5) rfl (j:=r) (by dsimp only; omega)) ?_;refine qC rfl (akg _ _) ?_
  repeat refine qX rfl ?_
  exact fa ⟨rfl,rfl,rfl,rfl,trivial⟩
 replace h:=h.below hw;clear hw;refine cond hS rfl (fun hT=>wp_skip ?_) (fun hF=>?_)
 rotate_left
 ·have hge:=of_decide_eq_false hF;have he:=hL.there (r:=r) hs (g - r) g (by omega) h2 (by omega);refine wp_exit ?_
  repeat first|refine bf ?_|refine ba ?_|refine az rfl ?_
  refine wp_seq (ai [(6,Vi (lev r s : Int))] (· = w3) af hS ?_ (fun a w4 hS hw=>?_))
  ·have c1:=h.r.cN (i:=3) rfl (j:=s) (by dsimp only; omega);dsimp only at c1;rw [hg,he] at c1
   repeat refine zX rfl ?_
   refine zL rfl (h.r.xcell (i:=0) rfl (j:=2) rfl) ?_
   repeat refine zX rfl ?_
   refine zI rfl (rfl) ((by dsimp only; omega)) ?_;refine zL rfl (c1) ?_
   repeat refine zX rfl ?_
   exact aj ⟨⟨rfl,trivial⟩,rfl⟩
  subst hw;rw [he] at h;refine wp_ret ?_
  repeat first|refine a8 ?_|refine am ?_
  exact ret1 hS rfl rfl ⟨rfl,⟨_,h⟩⟩
 have hge:=of_decide_eq_true hT;obtain ⟨q',k1,k2,k3⟩:=hL.back (r:=r) hs (g - r) g (by omega) h2 hge;obtain ⟨gbs,cbs,rfl,-⟩:=h.r.nilOr (i:=4) rfl (by dsimp only; omega);refine wp_block (d5 20 [(0,Vp b),(1,Vi s),(2,Vi r)] (fun w'=>Hold base w0 w' (ptR b { p with bl:=bl.set s (lev q' s) } ⟨vst,vpl,Vs gbl (bl.set s (lev g s)).length cbl,Vs gbs p.bs.length cbs,Vs gcs p.cs.length ccs,vml⟩ ++ rest)) dc hS ?_ (fun a w4 hS h=>?_))
 ·have hy : RowKit.Below w3.drew.heap.size w3.drew w3.drew:=RowKit.Below.refl _ _;have hD:=h.drew;have c1:=hD.r.cN (i:=3) rfl (j:=s) (by dsimp only; omega);dsimp only at c1;rw [hg] at c1;have c3:=hD.r.cK3 (i:=4) rfl (j:=lev g s) (by dsimp only; omega);dsimp only at c3;rw [k3] at c3;refine yT 0 af rfl (by kernel_rfl) hy rfl (rfl) ?_;refine yT 1 af rfl (by kernel_rfl) hy rfl (rfl) ?_;refine yT 2 af rfl (by kernel_rfl) hy rfl (rfl) ?_;refine yL 3 af rfl (by kernel_rfl) hy rfl rfl (hD.r.xcell (i:=0) rfl (j:=2) rfl) ?_;refine yT 4 af rfl (by kernel_rfl) hy rfl (rfl) ?_;refine yT 5 af rfl (by kernel_rfl) hy rfl (rfl) ?_;refine yT 6 af rfl (by kernel_rfl) hy rfl (rfl) ?_;refine yT 7 af rfl (by kernel_rfl) hy rfl (rfl) ?_;refine yL 8 af rfl (by kernel_rfl) hy rfl rfl (hD.r.xcell (i:=0) rfl (j:=3) rfl) ?_;refine yT 9 af rfl (by kernel_rfl) hy rfl (rfl) ?_;refine yT 10 af rfl (by kernel_rfl) hy rfl (rfl) ?_;refine yT 11 af rfl (by kernel_rfl) hy rfl (rfl) ?_;refine yL 12 af rfl (by kernel_rfl) hy rfl rfl (hD.r.xcell (i:=0) rfl (j:=2) rfl) ?_;refine yT 13 af rfl (by kernel_rfl) hy rfl (rfl) ?_;refine yT 14 af rfl (by kernel_rfl) hy rfl (exI _ (anI (rfl) (anI ((by dsimp only; omega)) rfl))) ?_;refine yL 15 af rfl (by kernel_rfl) hy rfl rfl (c1) ?_;refine yT 16 af rfl (by kernel_rfl) hy rfl (exI _ (anI (rfl) (anI ((by dsimp only; omega)) rfl))) ?_;refine yT 17 af rfl (by kernel_rfl) hy rfl (rfl) ?_;refine yL 18 af rfl (by kernel_rfl) hy rfl rfl (c3) ?_;refine yT 19 af rfl (by kernel_rfl) hy rfl (exI _ (anI (rfl) (anI ((by dsimp only; omega)) rfl))) ?_;refine bo 20 (by kernel_rfl) (ew 20 af rfl rfl rfl ?_);refine anI rfl (anI rfl (anI ⟨_,c1⟩ (anI (hD.r.free (i:=3) rfl _) (anI (.inl (by kernel_rfl)) ?_))));have h5:=hD.storeN (i:=3) rfl s (lev q' s);dsimp only at h5;rw [List.set_set] at h5;exact iq (by kernel_rfl) ⟨rfl,rfl,rfl,trivial⟩ h5
 exact ⟨q',_,k2,⟨q',_,k1,by omega,rfl,rfl,h⟩,hS⟩
end
section
variable {base : Nat} {w0 w w' : World} {l l' : List Ow}
theorem Rows.perm (h : Rows base w l) (hp : l.Perm l') : Rows base w l':=by
 have h1 : ∀ o ∈ l,o.ok base w:=fun o ho=>by
  obtain ⟨i,hi⟩:=List.getElem?_of_mem ho;exact h.1 i o hi
 have h2 : l.Pairwise fun a b=>nj a.v b.v:=by
  rw [List.pairwise_iff_getElem];intro i j hi hj hij;exact h.2 i j _ _ (by omega) (List.getElem?_eq_getElem hi) (List.getElem?_eq_getElem hj)
 have h3 : l'.Pairwise fun a b=>nj a.v b.v:=(hp.pairwise_iff (fun {_ _} k=>k.symm)).1 h2;refine ⟨fun i o hi=>h1 o (hp.mem_iff.2 (List.mem_of_getElem? hi)),fun i j a b hij ha hb=>?_⟩;rw [List.pairwise_iff_getElem] at h3;obtain ⟨hi,rfl⟩:=List.getElem?_eq_some_iff.1 ha;obtain ⟨hj,rfl⟩:=List.getElem?_eq_some_iff.1 hb
 rcases Nat.lt_or_gt_of_ne hij with h4 | h4
 ·exact h3 i j hi hj h4
 ·exact (h3 j i hj hi h4).symm
theorem Hold.perm (h : Hold base w0 w l) (hp : l.Perm l') : Hold base w0 w l':=⟨h.r.perm hp,h.b,h.s⟩
theorem Hold.nil (h : Hold base w0 w l) (e s : Nat) : Hold base w0 w (⟨.slice none 0 0,e,s,0,[]⟩ :: l):=
 h.new ⟨rfl,rfl,rfl,Nat.le_refl _,fun _ _ _=>rfl⟩ (World.ownsRow_nil _ _ _ _) (.inl rfl)
theorem Hold.makeN (h : Hold base w0 w l) {n : Nat} (hn : n ≤ 9223372036854775807) : Hold base w0 (w.alloc (.cells (madeCells #[Vi 0] n) 3)) (oN (Vs w.heap.size n n) (List.replicate n 0) :: l):=by
 have h1:=h.lit (e:=3) (s:=1) (n:=n) (madeCells #[Vi 0] n) (by simp [madeCells]) hn;rw [toList_madeCells_one] at h1
 simpa [oN,nats] using h1
theorem Hold.makeS (h : Hold base w0 w l) {n : Nat} (hn : n ≤ 9223372036854775807) : Hold base w0 (w.alloc (.cells (madeCells #[.int .i32 0] n) 21)) (oS (Vs w.heap.size n n) (List.replicate n 0) :: l):=by
 have h1:=h.lit (e:=21) (s:=1) (n:=n) (madeCells #[.int .i32 0] n) (by simp [madeCells]) hn;rw [toList_madeCells_one] at h1
 simpa [oS,n32s] using h1
end
section
variable {base : Nat} {w0 w : World} {b : Nat} {p : Pt} {N s : Nat} {rest : List Ow}
theorem zh {L R r t : Nat} {dl : Nat → Nat → Nat} {en : Nat → Bool} {lev : Nat → Nat → Nat} {bl : List Nat} (hL : Lev L dl en p N lev R) (hbl : o4 lev N R r bl) (hs : s < N) (ht : t < N) (hr : r ≤ R) (hN : N ≤ 100000000) (hbs : p.bs.length ≤ 100000000)
  (h : du base w0 w b { p with bl:=bl } rest) :
  Calls Tryz.prog 37 #[Vp b,Vi s,Vi t,Vi r] w fun e w'=>e = .returned (.bool (decide (lev r s ≠ lev r t))) ∧ ∃ bl',o4 lev N R r bl' ∧ du base w0 w' b { p with bl:=bl' } rest:=by
 refine Sym.c8 (args:=[Vp b,Vi s,Vi t,Vi r]) Tryz.func37 rfl rfl rfl (fun a0 hS0=>?_);refine wp_seq (ai [(0,Vp b),(1,Vi s),(2,Vi t),(3,Vi r)] (· = w) af hS0 ?_ (fun a w1 hS hw=>?_))
 ·repeat refine zX rfl ?_
  exact aj ⟨⟨rfl,rfl,rfl,rfl,trivial⟩,rfl⟩
 subst hw;refine wp_seq (ai [(8,.bool (decide (lev r s ≠ lev r t)))] (fun w'=>∃ bl',o4 lev N R r bl' ∧ du base w0 w' b { p with bl:=bl' } rest) af hS ?_ (fun a w2 hS hw=>?_))
 ·repeat refine zX rfl ?_
  refine zF rfl (y3) (u7 hL hbl hs hr hN hbs h) ?_;rintro e w2 ⟨rfl,h2⟩;refine ⟨_,rfl,?_⟩;have hb2:=hbl.set (s:=s) (Nat.le_refl r) hr
  repeat refine zX rfl ?_
  refine zF rfl (y3) (u7 hL hb2 ht hr hN hbs h2) ?_;rintro e w3 ⟨rfl,h3⟩;refine ⟨_,rfl,?_⟩;refine zC rfl (af5 _ _) ?_
  repeat refine zX rfl ?_
  exact aj ⟨⟨rfl,trivial⟩,⟨_,hb2.set (s:=t) (Nat.le_refl r) hr,h3⟩⟩
 refine wp_ret ?_
 repeat first|refine a8 ?_|refine am ?_
 exact ret1 hS rfl rfl ⟨rfl,hw⟩
def Pt.whole (n : Nat) : Pt:=⟨List.range n,List.range n,List.replicate n 0,[⟨0,n,0,0⟩],[1],[]⟩
theorem mv {n i : Nat} (h : i < n) : gt (List.range n) i = i:=by simp [gt,List.getD_eq_getElem?_getD,h]
theorem sr {n i x : Nat} (h : i < n) : gt (List.replicate n x) i = x:=by simp [gt,List.getD_eq_getElem?_getD,h]
theorem ah6 {n : Nat} (h : 0 < n) : PI (Pt.whole n) n []:=by
 have hb : ∀ c,c < (Pt.whole n).bs.length → c = 0:=fun c hc=>by
  have : c < 1:=hc;omega
 refine ⟨by simp [Pt.whole],by simp [Pt.whole],by simp [Pt.whole],fun i hi=>?_,fun i hi=>?_,fun i hi=>?_,fun i hi=>?_,fun c hc=>?_,fun c hc i h1 h2=>?_,fun c=>?_,by simp⟩
 ·show gt (List.range n) i < n ∧ gt (List.range n) (gt (List.range n) i) = i;rw [mv hi,mv hi]; exact ⟨hi,rfl⟩
 ·show gt (List.range n) i < n ∧ gt (List.range n) (gt (List.range n) i) = i;rw [mv hi,mv hi]; exact ⟨hi,rfl⟩
 ·show gt (List.replicate n 0) i < 1;rw [sr hi]; omega
 ·show (gb [⟨0,n,0,0⟩] (gt (List.replicate n 0) i)).first ≤ gt (List.range n) i ∧ gt (List.range n) i < (gb [⟨0,n,0,0⟩] (gt (List.replicate n 0) i)).first + (gb [⟨0,n,0,0⟩] (gt (List.replicate n 0) i)).size;rw [sr hi,mv hi];show 0 ≤ i ∧ i < 0 + n;omega
 ·obtain rfl:=hb c hc;show 0 < n ∧ 0 ≤ n ∧ 0 + n ≤ n;omega
 ·obtain rfl:=hb c hc;have h2 : i < 0 + n:=h2;show gt (List.replicate n 0) (gt (List.range n) i) = 0;rw [mv (by omega),sr (by omega)]
 ·constructor
  ·intro h; cases h
  ·rintro ⟨hc,h1⟩;obtain rfl:=hb c hc;exact (Nat.lt_irrefl 0 h1).elim
variable {n i : Nat}
theorem ah5 (h : du base w0 w b p rest) (hl : p.st.length ≤ 100000000) (hi : i ≤ 100000000) {Q : Exit → Act → World → Prop} {a : Act} {ops : Array Oper} {id : Nat} (hops : Sym.da Tryz.f66.body 5 = some (id,ops))
  (hS : St Tryz.f66.ntmps a [(3,Vp b),(4,Vi i),(13,Vi n),(14,Vi i)])
  (hq : ∀ a' w',St Tryz.f66.ntmps a' [(3,Vp b),(4,Vi i),(13,Vi n),(14,Vi i)] → du base w0 w' b { p with st:=p.st ++ [i] } rest → Q .normal a' w') : (Code.region id ops false).wp Tryz.prog Q a w:=by
 cases hops
 obtain ⟨⟨vst,vpl,vbl,vbs,vcs,vml⟩,h⟩:=h;refine ai [(3,Vp b),(4,Vi i),(13,Vi n),(14,Vi i)] (fun w'=>du base w0 w' b { p with st:=p.st ++ [i] } rest) af hS ?_ hq
 obtain ⟨g,c,rfl,hc⟩:=h.r.any (i:=1) rfl
 repeat refine zX rfl ?_
 refine zL rfl (h.r.xcell (i:=0) rfl (j:=0) rfl) ?_
 repeat refine zX rfl ?_
 refine zN rfl (pk i (by omega)) ?_;refine b8 rfl rfl rfl ?_;refine exI [(0,.int .i32 (i : Int))] (exI #[.int .i32 (i : Int)] (anI (anI rfl rfl) (anI (by decide) (anI (jv _ _ _) ?_))));have h1:=h.alloc (.cells #[.int .i32 (i : Int)] 21)
 have ask : AppAsk (w.alloc (.cells #[.int .i32 (i : Int)] 21)) ⟨21,.int .i32,1,4,.int .i32 0⟩ (.slice g p.st.length c) p.st.length (n32s p.st) (Vs w.heap.size 1 1) 1 [.int .i32 (i : Int)] base:=
  ⟨h1.r.1 1 _ rfl,.inr ⟨_,0,_,rfl,ax rfl,trivial⟩,rfl,(by simp [Value.oneCell']),(by omega),(by show (p.st.length + 1) * 4 ≤ _; omega),h1.s⟩
 refine b8 rfl rfl rfl ?_;refine exI _ (exI _ (exI _ (exI _ (exI _ (anI (ask) (anI (fun _ h=>h.symm) (anI (by decide) ?_)))))));rintro v' w2 hown hgr - hat;have h2:=h1.appS (i:=1) rfl hown hgr hat;obtain ⟨g2,n2,c2,hv⟩:=df hown;subst hv
 repeat refine zX rfl ?_
 refine zS rfl rfl (h2.r.xcell (i:=0) rfl (j:=0) rfl) (h2.r.free (i:=0) rfl 0) ?_;exact aj ⟨⟨rfl,rfl,rfl,rfl,trivial⟩,⟨.slice g2 n2 c2,vpl,vbl,vbs,vcs,vml⟩,h2.xstore (i:=0) rfl 0 (.slice g2 n2 c2)⟩
theorem ah4 (h : du base w0 w b p rest) (hl : p.pl.length ≤ 100000000) {Q : Exit → Act → World → Prop} {a : Act} {ops : Array Oper} {id : Nat} (hops : Sym.da Tryz.f66.body 6 = some (id,ops))
  (hS : St Tryz.f66.ntmps a [(3,Vp b),(4,Vi i),(13,Vi n),(14,Vi i)])
  (hq : ∀ a' w',St Tryz.f66.ntmps a' [(3,Vp b),(13,Vi n),(14,Vi i)] → du base w0 w' b { p with pl:=p.pl ++ [i] } rest → Q .normal a' w') : (Code.region id ops false).wp Tryz.prog Q a w:=by
 cases hops
 obtain ⟨⟨vst,vpl,vbl,vbs,vcs,vml⟩,h⟩:=h;refine ai [(3,Vp b),(13,Vi n),(14,Vi i)] (fun w'=>du base w0 w' b { p with pl:=p.pl ++ [i] } rest) af hS ?_ hq
 obtain ⟨g,c,rfl,hc⟩:=h.r.any (i:=2) rfl
 repeat refine zX rfl ?_
 refine zL rfl (h.r.xcell (i:=0) rfl (j:=1) rfl) ?_
 repeat refine zX rfl ?_
 refine b8 rfl rfl rfl ?_;refine exI [(0,Vi ((i : Int)))] (exI #[Vi ((i : Int))] (anI (anI rfl rfl) (anI (by decide) (anI (jv _ _ _) ?_))));have h1:=h.alloc (.cells #[Vi i] 3)
 have ask : AppAsk (w.alloc (.cells #[Vi i] 3)) ⟨3,.int .i64,1,8,Vi 0⟩ (.slice g p.pl.length c) p.pl.length (nats p.pl) (Vs w.heap.size 1 1) 1 [Vi i] base:=
  ⟨h1.r.1 2 _ rfl,.inr ⟨_,0,_,rfl,ax rfl,trivial⟩,rfl,(by simp [Value.oneCell']),(by omega),(by show (p.pl.length + 1) * 8 ≤ _; omega),h1.s⟩
 refine b8 rfl rfl rfl ?_;refine exI _ (exI _ (exI _ (exI _ (exI _ (anI (ask) (anI (fun _ h=>h.symm) (anI (by decide) ?_)))))));rintro v' w2 hown hgr - hat;have h2:=h1.appN (i:=2) rfl hown hgr hat;obtain ⟨g2,n2,c2,hv⟩:=df hown;subst hv
 repeat refine zX rfl ?_
 refine zS rfl rfl (h2.r.xcell (i:=0) rfl (j:=1) rfl) (h2.r.free (i:=0) rfl 1) ?_;exact aj ⟨⟨rfl,rfl,rfl,trivial⟩,⟨vst,.slice g2 n2 c2,vbl,vbs,vcs,vml⟩,h2.xstore (i:=0) rfl 1 (.slice g2 n2 c2)⟩
theorem aen (h : Hold base w0 w rest) (hn : n ≤ 100000000) :
  Calls Tryz.prog 66 #[Vi n] w fun e w'=>∃ b,e = .returned (Vp b) ∧ du base w0 w' b (Pt.whole n) rest:=by
 refine Sym.c8 (args:=[Vi n]) Tryz.func66 rfl rfl rfl (fun a0 hS0=>?_);refine wp_seq (ai [(0,Vi n)] (· = w) af hS0 ?_ (fun a w1 hS hw=>?_))
 ·repeat refine zX rfl ?_
  exact aj ⟨⟨rfl,trivial⟩,rfl⟩
 subst hw;refine wp_seq (bg (α:=Nat) (fun b=>[(0,Vi n),(3,Vp b)]) (fun b w'=>du base w0 w' b ⟨[],[],List.replicate n 0,[⟨0,n,0,0⟩],[1],[]⟩ rest) af hS ?_ (fun b a w2 hS h=>?_))
 ·repeat refine zX rfl ?_
  refine zM (n) rfl rfl rfl rfl rfl ((by show 8 * _ ≤ _; omega)) ((by omega)) ?_
  repeat refine zX rfl ?_
  have h1:=h.makeN (n:=n) (by omega);refine b8 rfl rfl rfl ?_;refine exI [(0,.agg #[Vi 0,Vi n,Vi 0,Vi 0])] (exI #[Vi 0,Vi n,Vi 0,Vi 0] (anI (anI rfl rfl) (anI (by decide) (anI (fill4 _ _ _ _ _ rfl) ?_))));have h2:=h1.lit (e:=102) (s:=4) (n:=1) #[Vi 0,Vi n,Vi 0,Vi 0] rfl (by decide);refine b8 rfl rfl rfl ?_;refine exI [(0,Vi (1))] (exI #[Vi (1)] (anI (anI rfl rfl) (anI (by decide) (anI (jv _ _ _) ?_))));have h3:=h2.lit (e:=3) (s:=1) (n:=1) #[Vi 1] rfl (by decide)
  repeat refine zX rfl ?_
  refine zB rfl ?_
  repeat refine zX rfl ?_
  have h4:=((((h3.nil 3 1).nil 3 1).nil 21 1).box (T:=76) (k:=6) #[.slice none 0 0,.slice none 0 0,(Vs w1.heap.size n n),(Vs (w1.alloc (.cells (madeCells #[Vi 0] n) 3)).heap.size 1 1),(Vs ((w1.alloc (.cells (madeCells #[Vi 0] n) 3)).alloc (.cells #[Vi 0,Vi n,Vi 0,Vi 0] 102)).heap.size 1 1),.slice none 0 0] rfl);refine aj ⟨_,⟨rfl,rfl,trivial⟩,⟨⟨.slice none 0 0,.slice none 0 0,(Vs w1.heap.size n n),(Vs (w1.alloc (.cells (madeCells #[Vi 0] n) 3)).heap.size 1 1),(Vs ((w1.alloc (.cells (madeCells #[Vi 0] n) 3)).alloc (.cells #[Vi 0,Vi n,Vi 0,Vi 0] 102)).heap.size 1 1),.slice none 0 0⟩,h4.perm ?_⟩⟩;exact .cons _ (.cons _ (.cons _ ((List.reverse_perm [_,_,_,_]).symm.append_right rest)))
 refine wp_seq (wp_seq (ai [(3,Vp b),(13,Vi n),(14,Vi (0 : Nat))] (· = w2) af hS ?_ (fun a w3 hS hw=>?_)))
 ·repeat refine zX rfl ?_
  exact aj ⟨⟨rfl,rfl,rfl,trivial⟩,rfl⟩
 subst hw;refine wp_block (cz hS (fun g E w'=>∃ i : Nat,i ≤ n ∧ g = n - i ∧ E = [(3,Vp b),(13,Vi n),(14,Vi i)] ∧ du base w0 w' b ⟨List.range i,List.range i,List.replicate n 0,[⟨0,n,0,0⟩],[1],[]⟩ rest) n ⟨0,by omega,by omega,rfl,h⟩ ?_);clear h hS;rintro g E w4 a ⟨i,hi,rfl,rfl,h⟩ hS;refine wp_seq (ai [(3,Vp b),(13,Vi n),(14,Vi i),(15,.bool (decide (i < n)))] (· = w4) af hS ?_ (fun a w5 hS hw=>?_))
 ·repeat refine zX rfl ?_
  refine zC rfl (co _ _) ?_
  repeat refine zX rfl ?_
  exact aj ⟨⟨rfl,rfl,rfl,rfl,trivial⟩,rfl⟩
 subst hw;refine wp_seq (cond hS rfl (fun hT=>wp_skip ?_) (fun hF=>?_))
 rotate_left
 ·have hin : i = n:=by have:=of_decide_eq_false hF; omega
  subst hin;refine wp_exit ?_
  repeat first|refine bf ?_|refine ba ?_|refine az rfl ?_
  refine wp_seq (ai [(2,Vp b)] (· = w5) af hS ?_ (fun a w6 hS hw=>?_))
  ·repeat refine zX rfl ?_
   exact aj ⟨⟨rfl,trivial⟩,rfl⟩
  subst hw;refine wp_ret ?_
  repeat first|refine a8 ?_|refine am ?_
  exact ret1 hS rfl rfl ⟨b,rfl,h⟩
 have hin : i < n:=of_decide_eq_true hT;refine wp_seq (wp_block (wp_seq (ai [(3,Vp b),(4,Vi i),(13,Vi n),(14,Vi i)] (· = w5) af hS ?_ (fun a w6 hS hw=>?_))))
 ·repeat refine zX rfl ?_
  exact aj ⟨⟨rfl,rfl,rfl,rfl,trivial⟩,rfl⟩
 subst hw;refine wp_seq (ah5 h (by simp; omega) (by omega) (by rfl) hS (fun a w7 hS h=>?_));refine ah4 h (by simp; omega) (by rfl) hS (fun a w8 hS h=>?_);refine ay ?_;refine ai [(3,Vp b),(13,Vi n),(14,Vi (i + 1 : Nat))] (· = w8) af hS ?_ (fun a w9 hS hw=>?_)
 ·repeat refine zX rfl ?_
  refine zN rfl (bm _ 1 (by omega)) ?_
  repeat refine zX rfl ?_
  exact aj ⟨⟨rfl,rfl,rfl,trivial⟩,rfl⟩
 subst hw;refine ⟨n - (i + 1),_,by omega,⟨i + 1,by omega,rfl,rfl,?_⟩,hS⟩;rw [List.range_succ];exact h
end
end
section
open Go Sym
theorem ui : bk Tryz.prog 54 = true:=by kernel_rfl
theorem l4 : bk Tryz.prog 21 = true:=by kernel_rfl
theorem aa5 : bk Tryz.prog 33 = true:=by kernel_rfl
theorem qs : bk Tryz.prog 31 = true:=by kernel_rfl
theorem xm : bk Tryz.prog 32 = true:=by kernel_rfl
theorem l6 {w wc : World} {L s : Int} {vn ve : Value} (hw : wc = w.alloc (.cells #[Vi L,Vi s,vn,ve] 25)) : RowKit.Below w.heap.size w wc ∧ Box wc w.heap.size L s vn ve:=by
 rw [hw];exact ⟨ao _ _,ax rfl,ax rfl,ax rfl,ax rfl⟩
theorem t8 (L s : Int) (vn ve : Value) (next : List (List Int)) (fin : List Bool) (w : World) (hm : Ma w L s next fin vn ve) :
  Calls Tryz.prog 54 #[.agg #[Vi L,Vi s,vn,ve]] w fun e w'=>e = .returned (.bool (e9 L s next fin)) ∧ RowKit.Below w.heap.size w w':=by
 refine Sym.c8 (args:=[.agg #[Vi L,Vi s,vn,ve]]) Tryz.func54 rfl rfl rfl (fun a0 hS0=>?_);obtain ⟨B,hBB⟩ : ∃ B,B = w.heap.size:=⟨_,rfl⟩;refine wp_seq (ai [(1,Vp B)] (· = w.alloc (.cells #[Vi L,Vi s,vn,ve] 25)) af hS0 ?_ (fun a wc hS hw=>?_))
 ·subst hBB;refine zB rfl ?_
  repeat refine zX rfl ?_
  exact aj ⟨⟨rfl,trivial⟩,rfl⟩
 obtain ⟨hB,hx⟩:=l6 hw;rw [← hBB] at hx;clear hw;replace hm:=hm.keep hB;obtain ⟨hn,he,hL,hs,-,-⟩:=id hm;obtain ⟨an,bn,on,cn,hvn,hna,hn1,hn2,hn3⟩:=hn;obtain ⟨ae,be,oe,ce,hve,hea,he1,he2,he3⟩:=he;refine wp_seq (ai [(1,Vp B),(3,Vi next.length)] (· = wc) af hS ?_ (fun a w' hS hw=>?_))
 ·subst hvn
  repeat refine zX rfl ?_
  refine zL rfl (hx.c2) ?_
  repeat refine zX rfl ?_
  exact aj ⟨⟨rfl,rfl,trivial⟩,rfl⟩
 subst hw;have bad : ∀ {b : Bool},b = e9 L s next fin → Ending.returned (.bool b) = Ending.returned (.bool (e9 L s next fin)):=fun h=>by rw [h]
 refine wp_seq (wp_seq (ai [(1,Vp B),(3,Vi next.length),(20,.bool (decide (L < 0) || decide ((fin.length : Int) ≠ next.length)))] (· = w') af hS ?_ (fun a w2 hS hw=>?_)))
 ·subst hve
  repeat refine zX rfl ?_
  refine zL rfl (hx.c0) ?_
  cases h1 : decide (L < 0)
  case true=>
   refine zC rfl (h1) ?_
   repeat refine zX rfl ?_
   exact aj ⟨⟨rfl,rfl,rfl,trivial⟩,rfl⟩
  refine zC rfl (h1) ?_
  repeat refine zX rfl ?_
  refine zL rfl (hx.c3) ?_
  repeat refine zX rfl ?_
  refine zC rfl (rfl) ?_
  repeat refine zX rfl ?_
  exact aj ⟨⟨rfl,rfl,rfl,trivial⟩,rfl⟩
 subst hw;refine cond hS rfl (fun hT=>?_) (fun hF=>?_)
 ·refine wp_seq (ai [(2,.bool false)] (· = w2) af hS ?_ (fun a w3 hS hw=>?_))
  ·repeat refine zX rfl ?_
   exact aj ⟨⟨rfl,trivial⟩,rfl⟩
  subst hw;refine wp_ret ?_
  repeat first|refine a8 ?_|refine am ?_
  refine ret1 hS rfl rfl ⟨bad ?_,hB⟩;unfold e9 im;rw [← Bool.or_assoc,hT]; rfl
 refine wp_skip ?_;refine wp_seq (wp_seq (ai [(1,Vp B),(3,Vi next.length),(37,.bool (decide (s < -1) || (decide ((next.length : Int) ≤ s) || (decide (s = -1) != decide ((next.length : Int) = 0)))))] (· = w2) af hS ?_ (fun a w3 hS hw=>?_)))
 ·repeat refine zX rfl ?_
  refine zL rfl (hx.c1) ?_
  cases h1 : decide (s < -1)
  case true=>
   refine zC rfl (h1) ?_
   repeat refine zX rfl ?_
   exact aj ⟨⟨rfl,rfl,rfl,trivial⟩,rfl⟩
  refine zC rfl (h1) ?_
  repeat refine zX rfl ?_
  refine zL rfl (hx.c1) ?_
  repeat refine zX rfl ?_
  cases h2 : decide ((next.length : Int) ≤ s)
  case true=>
   refine zC rfl (h2) ?_
   repeat refine zX rfl ?_
   exact aj ⟨⟨rfl,rfl,rfl,trivial⟩,rfl⟩
  refine zC rfl (h2) ?_
  repeat refine zX rfl ?_
  refine zL rfl (hx.c1) ?_;refine zC rfl (rfl) ?_
  repeat refine zX rfl ?_
  refine zC rfl (rfl) ?_;refine zC rfl (rfl) ?_
  repeat refine zX rfl ?_
  exact aj ⟨⟨rfl,rfl,rfl,trivial⟩,rfl⟩
 subst hw;refine cond hS rfl (fun hT2=>?_) (fun hF2=>?_)
 ·refine wp_seq (ai [(2,.bool false)] (· = w3) af hS ?_ (fun a w4 hS hw=>?_))
  ·repeat refine zX rfl ?_
   exact aj ⟨⟨rfl,trivial⟩,rfl⟩
  subst hw;refine wp_ret ?_
  repeat first|refine a8 ?_|refine am ?_
  refine ret1 hS rfl rfl ⟨bad ?_,hB⟩;refine (Bool.eq_false_iff.2 fun h=>?_).symm;have hsh:=abr h;have h1:=hsh.s1;have h2:=hsh.s2;have h3:=hsh.start;simp only [Bool.or_eq_true,decide_eq_true_eq,bne_iff_ne,ne_eq,decide_eq_decide] at hT2;omega
 have hhead : im L s next.length fin.length = false:=by
  unfold im;rw [← Bool.or_assoc,hF,Bool.false_or];simp only [Bool.or_eq_false_iff,decide_eq_false_iff_not,bne_eq_false_iff_eq,decide_eq_decide] at hF2;simp only [Bool.or_eq_false_iff,Bool.and_eq_false_iff,decide_eq_false_iff_not,ne_eq,Decidable.not_not];omega
 refine wp_skip ?_;refine wp_seq (wp_seq (ai [(1,Vp B),(3,Vi next.length),(39,vn),(40,Vi next.length),(41,Vi (0 : Nat))] (· = w3) af hS ?_ (fun a w4 hS hw=>?_)))
 ·subst hvn
  repeat refine zX rfl ?_
  refine zL rfl (hx.c2) ?_
  repeat refine zX rfl ?_
  exact aj ⟨⟨rfl,rfl,rfl,rfl,rfl,trivial⟩,rfl⟩
 subst hw;refine wp_block (cz hS (fun g E wr=>∃ k : Nat,k ≤ next.length ∧ g = next.length - k ∧ E = [(1,Vp B),(3,Vi next.length),(39,vn),(40,Vi next.length),(41,Vi k)] ∧ wr = w4 ∧ (next.take k).all (p7 next.length L) = true) next.length ⟨0,by omega,by omega,rfl,rfl,rfl⟩ ?_);clear hS;rintro g E w5 a ⟨k,hk,rfl,rfl,rfl,hall⟩ hS;refine wp_seq (ai [(1,Vp B),(3,Vi next.length),(39,vn),(40,Vi next.length),(41,Vi k),(42,.bool (decide (k < next.length)))] (· = w5) af hS ?_ (fun a w6 hS hw=>?_))
 ·repeat refine zX rfl ?_
  refine zC rfl (co _ _) ?_
  repeat refine zX rfl ?_
  exact aj ⟨⟨rfl,rfl,rfl,rfl,rfl,rfl,trivial⟩,rfl⟩
 subst hw;refine wp_seq (cond hS rfl (fun hT=>wp_skip ?_) (fun hF=>?_))
 rotate_left
 ·have hkk : k = next.length:=by have:=of_decide_eq_false hF; omega
  subst hkk;rw [List.take_length] at hall;refine wp_exit ?_
  repeat first|refine bf ?_|refine ba ?_|refine az rfl ?_
  refine wp_seq (ai [(2,.bool true)] (· = w6) af hS ?_ (fun a w7 hS hw=>?_))
  ·repeat refine zX rfl ?_
   exact aj ⟨⟨rfl,trivial⟩,rfl⟩
  subst hw;refine wp_ret ?_
  repeat first|refine a8 ?_|refine am ?_
  refine ret1 hS rfl rfl ⟨bad ?_,hB⟩;unfold e9;rw [hhead,hall]; rfl
 have hkk : k < next.length:=of_decide_eq_true hT;obtain ⟨bn',on',cn',hvn',ar,cr,hrow,hcol⟩:=hm.cell hkk
 have bad2 : p7 next.length L next[k] = false → e9 L s next fin = false:=fun h=>by
  unfold e9;rw [ju hkk h]; simp
 refine wp_seq (wp_block (wp_seq (ai [(1,Vp B),(3,Vi next.length),(39,vn),(40,Vi next.length),(41,Vi k),(5,.slice ar next[k].length cr)] (· = w6) af hS ?_ (fun a w7 hS hw=>?_))))
 ·subst hvn'
  repeat refine zX rfl ?_
  refine zI rfl (rfl) (hkk) ?_;refine zL rfl (hrow) ?_
  repeat refine zX rfl ?_
  exact aj ⟨⟨rfl,rfl,rfl,rfl,rfl,rfl,trivial⟩,rfl⟩
 subst hw;refine wp_seq (wp_seq (ai [(1,Vp B),(3,Vi next.length),(39,vn),(40,Vi next.length),(41,Vi k),(5,.slice ar next[k].length cr),(49,.bool (decide ((next[k].length : Int) ≠ L)))] (· = w7) af hS ?_ (fun a w8 hS hw=>?_)))
 ·repeat refine zX rfl ?_
  refine zL rfl (hx.c0) ?_;refine zC rfl (rfl) ?_
  repeat refine zX rfl ?_
  exact aj ⟨⟨rfl,rfl,rfl,rfl,rfl,rfl,rfl,trivial⟩,rfl⟩
 subst hw;refine cond hS rfl (fun hT=>?_) (fun hF=>?_)
 ·refine wp_seq (ai [(2,.bool false)] (· = w8) af hS ?_ (fun a w9 hS hw=>?_))
  ·repeat refine zX rfl ?_
   exact aj ⟨⟨rfl,trivial⟩,rfl⟩
  subst hw;refine wp_ret ?_
  repeat first|refine a8 ?_|refine am ?_
  refine ret1 hS rfl rfl ⟨bad (bad2 ?_).symm,hB⟩
  have:=of_decide_eq_true hT
  unfold p7;rw [decide_eq_false this]; rfl
 have hrl:=Decidable.not_not.1 (of_decide_eq_false hF);refine wp_skip ?_;refine wp_seq (ai [(1,Vp B),(3,Vi next.length),(39,vn),(40,Vi next.length),(41,Vi k),(50,.slice ar next[k].length cr),(51,Vi (next[k].length : Int)),(52,Vi (0 : Nat))] (· = w8) af hS ?_ (fun a w9 hS hw=>?_))
 ·repeat refine zX rfl ?_
  exact aj ⟨⟨rfl,rfl,rfl,rfl,rfl,rfl,rfl,rfl,trivial⟩,rfl⟩
 subst hw;refine wp_block (cz hS (fun g E wr=>∃ j : Nat,j ≤ next[k].length ∧ g = next[k].length - j ∧ E = [(1,Vp B),(3,Vi next.length),(39,vn),(40,Vi next.length),(41,Vi k),(50,.slice ar next[k].length cr),(51,Vi (next[k].length : Int)),(52,Vi j)] ∧ wr = w9 ∧ (next[k].take j).all (fun x=>decide (-1 ≤ x) && decide (x < next.length)) = true) next[k].length ⟨0,by omega,by omega,rfl,rfl,rfl⟩ ?_);clear hS;rintro g E w10 a ⟨j,hj,rfl,rfl,rfl,hall2⟩ hS;refine wp_seq (ai [(1,Vp B),(3,Vi next.length),(39,vn),(40,Vi next.length),(41,Vi k),(50,.slice ar next[k].length cr),(51,Vi (next[k].length : Int)),(52,Vi j),(53,.bool (decide (j < next[k].length)))] (· = w10) af hS ?_ (fun a w11 hS hw=>?_))
 ·repeat refine zX rfl ?_
  refine zC rfl (co _ _) ?_
  repeat refine zX rfl ?_
  exact aj ⟨⟨rfl,rfl,rfl,rfl,rfl,rfl,rfl,rfl,rfl,trivial⟩,rfl⟩
 subst hw;refine wp_seq (cond hS rfl (fun hT=>wp_skip ?_) (fun hF=>?_))
 rotate_left
 ·have hjj : j = next[k].length:=by have:=of_decide_eq_false hF; omega
  subst hjj;rw [List.take_length] at hall2;refine wp_exit ?_
  repeat first|refine bf ?_|refine ba ?_|refine az rfl ?_
  refine ay ?_;refine ai [(1,Vp B),(3,Vi next.length),(39,vn),(40,Vi next.length),(41,Vi (k + 1 : Nat))] (· = w11) af hS ?_ (fun a w12 hS hw=>?_)
  ·repeat refine zX rfl ?_
   refine zN rfl (bm k 1 (by omega)) ?_
   repeat refine zX rfl ?_
   exact aj ⟨⟨rfl,rfl,rfl,rfl,rfl,trivial⟩,rfl⟩
  subst hw;refine ⟨next.length - (k + 1),_,by omega,⟨k + 1,by omega,rfl,rfl,rfl,?_⟩,hS⟩;rw [jj next _ k hkk,hall];unfold p7;rw [decide_eq_true hrl,hall2]; rfl
 have hjj : j < next[k].length:=of_decide_eq_true hT;obtain ⟨br,orr,har,hcell⟩:=hcol j hjj;refine wp_seq (wp_block (wp_seq (ai [(1,Vp B),(3,Vi next.length),(39,vn),(40,Vi next.length),(41,Vi k),(50,.slice ar next[k].length cr),(51,Vi (next[k].length : Int)),(52,Vi j),(7,Vi next[k][j])] (· = w11) af hS ?_ (fun a w12 hS hw=>?_))))
 ·subst har
  repeat refine zX rfl ?_
  refine zI rfl (rfl) (hjj) ?_;refine zL rfl (hcell) ?_
  repeat refine zX rfl ?_
  exact aj ⟨⟨rfl,rfl,rfl,rfl,rfl,rfl,rfl,rfl,rfl,trivial⟩,rfl⟩
 subst hw;refine wp_seq (ai [(1,Vp B),(3,Vi next.length),(39,vn),(40,Vi next.length),(41,Vi k),(50,.slice ar next[k].length cr),(51,Vi (next[k].length : Int)),(52,Vi j),(62,.bool (decide (next[k][j] < -1) || decide ((next.length : Int) ≤ next[k][j])))] (· = w12) af hS ?_ (fun a w13 hS hw=>?_))
 ·repeat refine zX rfl ?_
  cases h1 : decide (next[k][j] < -1)
  case true=>
   refine zC rfl (h1) ?_
   repeat refine zX rfl ?_
   exact aj ⟨⟨rfl,rfl,rfl,rfl,rfl,rfl,rfl,rfl,rfl,trivial⟩,rfl⟩
  refine zC rfl (h1) ?_
  repeat refine zX rfl ?_
  refine zC rfl (rfl) ?_
  repeat refine zX rfl ?_
  exact aj ⟨⟨rfl,rfl,rfl,rfl,rfl,rfl,rfl,rfl,rfl,trivial⟩,rfl⟩
 subst hw;refine cond hS rfl (fun hT=>?_) (fun hF=>?_)
 ·refine wp_seq (ai [(2,.bool false)] (· = w13) af hS ?_ (fun a w14 hS hw=>?_))
  ·repeat refine zX rfl ?_
   exact aj ⟨⟨rfl,trivial⟩,rfl⟩
  subst hw;refine wp_ret ?_
  repeat first|refine a8 ?_|refine am ?_
  refine ret1 hS rfl rfl ⟨bad (bad2 ?_).symm,hB⟩;simp only [Bool.or_eq_true,decide_eq_true_eq] at hT;unfold p7;rw [ju hjj]
  ·simp
  ·simp only [Bool.and_eq_false_iff,decide_eq_false_iff_not]; omega
 refine wp_skip ?_;refine ay ?_;refine ai [(1,Vp B),(3,Vi next.length),(39,vn),(40,Vi next.length),(41,Vi k),(50,.slice ar next[k].length cr),(51,Vi (next[k].length : Int)),(52,Vi (j + 1 : Nat))] (· = w13) af hS ?_ (fun a w14 hS hw=>?_)
 ·have : next[k].length ≤ 9223372036854775807:=by have:=hL.2; omega
  repeat refine zX rfl ?_
  refine zN rfl (bm j 1 (by omega)) ?_
  repeat refine zX rfl ?_
  exact aj ⟨⟨rfl,rfl,rfl,rfl,rfl,rfl,rfl,rfl,trivial⟩,rfl⟩
 subst hw;refine ⟨next[k].length - (j + 1),_,by omega,⟨j + 1,by omega,rfl,rfl,rfl,?_⟩,hS⟩;rw [jj _ _ j hjj,hall2];simp only [Bool.or_eq_false_iff,decide_eq_false_iff_not] at hF;simp only [Bool.true_and,Bool.and_eq_true,decide_eq_true_eq];omega
theorem jl (L s : Int) (vn ve : Value) (next : List (List Int)) (fin : List Bool) (w : World) (hm : Ma w L s next fin vn ve) :
  Calls Tryz.prog 21 #[.agg #[Vi L,Vi s,vn,ve]] w fun e w'=>e = .returned (Vi (de L s next fin)) ∧ RowKit.Below w.heap.size w w':=by
 refine Sym.c8 (args:=[.agg #[Vi L,Vi s,vn,ve]]) Tryz.func21 rfl rfl rfl (fun a0 hS0=>?_);obtain ⟨B,hBB⟩ : ∃ B,B = w.heap.size:=⟨_,rfl⟩;refine wp_seq (ai [(1,Vp B)] (· = w.alloc (.cells #[Vi L,Vi s,vn,ve] 25)) af hS0 ?_ (fun a wc hS hw=>?_))
 ·subst hBB;refine zB rfl ?_
  repeat refine zX rfl ?_
  exact aj ⟨⟨rfl,trivial⟩,rfl⟩
 obtain ⟨hB,hx⟩:=l6 hw;rw [← hBB] at hx;clear hw;replace hm:=hm.keep hB;obtain ⟨an,bn,on,cn,hvn,-⟩:=id hm.n;refine wp_seq (wp_seq (ai [(1,Vp B),(5,.bool (!e9 L s next fin))] (fun w'=>RowKit.Below wc.heap.size wc w') af hS ?_ (fun a w2 hS hw=>?_)))
 ·refine zA ([Vi L,Vi s,vn,ve]) rfl rfl (⟨hx.c0,hx.c1,hx.c2,hx.c3,trivial⟩) ?_;refine zF rfl (ui) (t8 L s vn ve next fin wc hm) ?_;rintro e w3 ⟨rfl,h3⟩;refine ⟨_,rfl,?_⟩
  repeat refine zX rfl ?_
  exact aj ⟨⟨rfl,rfl,trivial⟩,h3⟩
 replace hx:=hx.keep hw;replace hB:=ak hB hw;clear hw;refine cond hS rfl (fun hT=>?_) (fun hF=>?_)
 ·refine wp_seq (ai [(2,Vi 1)] (· = w2) af hS ?_ (fun a w3 hS hw=>?_))
  ·repeat refine zX rfl ?_
   exact aj ⟨⟨rfl,trivial⟩,rfl⟩
  subst hw;refine wp_ret ?_
  repeat first|refine a8 ?_|refine am ?_
  exact ret1 hS rfl rfl ⟨by unfold de; rw [hT],hB⟩
 refine wp_skip ?_;refine wp_seq (wp_seq (ai [(1,Vp B),(14,.bool (decide (300 < L) || decide (4000 < (next.length : Int))))] (· = w2) af hS ?_ (fun a w3 hS hw=>?_)))
 ·subst hvn
  repeat refine zX rfl ?_
  refine zL rfl (hx.c0) ?_
  cases h1 : decide (300 < L)
  case true=>
   refine zC rfl (h1) ?_
   repeat refine zX rfl ?_
   exact aj ⟨⟨rfl,rfl,trivial⟩,rfl⟩
  refine zC rfl (h1) ?_
  repeat refine zX rfl ?_
  refine zL rfl (hx.c2) ?_
  repeat refine zX rfl ?_
  refine zC rfl (rfl) ?_
  repeat refine zX rfl ?_
  exact aj ⟨⟨rfl,rfl,trivial⟩,rfl⟩
 subst hw;refine cond hS rfl (fun hT=>?_) (fun hF2=>?_)
 ·refine wp_seq (ai [(2,Vi 5)] (· = w3) af hS ?_ (fun a w4 hS hw=>?_))
  ·repeat refine zX rfl ?_
   exact aj ⟨⟨rfl,trivial⟩,rfl⟩
  subst hw;refine wp_ret ?_
  repeat first|refine a8 ?_|refine am ?_
  exact ret1 hS rfl rfl ⟨by unfold de; rw [hF,hT],hB⟩
 refine wp_skip ?_;refine wp_seq (ai [(2,Vi 0)] (· = w3) af hS ?_ (fun a w4 hS hw=>?_))
 ·repeat refine zX rfl ?_
  exact aj ⟨⟨rfl,trivial⟩,rfl⟩
 subst hw;refine wp_ret ?_
 repeat first|refine a8 ?_|refine am ?_
 exact ret1 hS rfl rfl ⟨by unfold de; rw [hF,hF2],hB⟩
end
section
open Go Sym
theorem om (L s : Int) (vn ve : Value) (next : List (List Int)) (st l : Int) (w : World) (hn : Sl w vn next PRow) (h1 : st < next.length) (h2 : 0 ≤ st → 0 ≤ l ∧ l < (next.getD st.toNat []).length) :
  Calls Tryz.prog 31 #[.agg #[Vi L,Vi s,vn,ve],Vi st,Vi l] w fun e w'=>e = .returned (Vi (dd next st l)) ∧ RowKit.Below w.heap.size w w':=by
 refine Sym.c8 (args:=[.agg #[Vi L,Vi s,vn,ve],Vi st,Vi l]) Tryz.func31 rfl rfl rfl (fun a0 hS0=>?_);refine wp_seq (ai [(1,Vi st),(2,Vi l),(3,Vp w.heap.size)] (· = w.alloc (.cells #[Vi L,Vi s,vn,ve] 25)) af hS0 ?_ (fun a wc hS hw=>?_))
 ·refine zB rfl ?_
  repeat refine zX rfl ?_
  exact aj ⟨⟨rfl,rfl,rfl,trivial⟩,rfl⟩
 obtain ⟨hB,hx⟩:=l6 hw;clear hw;refine wp_seq (wp_seq (ai [(1,Vi st),(2,Vi l),(3,Vp w.heap.size),(8,.bool (decide (st < 0)))] (· = wc) af hS ?_ (fun a w2 hS hw=>?_)))
 ·repeat refine zX rfl ?_
  refine zC rfl (rfl) ?_;exact aj ⟨⟨rfl,rfl,rfl,rfl,trivial⟩,rfl⟩
 subst hw;refine cond hS rfl (fun hlt=>?_) (fun hge=>?_)
 ·refine wp_seq (ai [(6,Vi (-1))] (· = w2) af hS ?_ (fun a w3 hS hw=>?_))
  ·repeat refine zX rfl ?_
   exact aj ⟨⟨rfl,trivial⟩,rfl⟩
  subst hw;have : st < 0:=of_decide_eq_true hlt;refine wp_ret ?_
  repeat first|refine a8 ?_|refine am ?_
  refine ret1 hS rfl rfl ⟨by rw [dd,if_pos this],hB⟩
 ·have hge : ¬ st < 0:=of_decide_eq_false hge;obtain ⟨k,rfl⟩:=Int.eq_ofNat_of_zero_le (Int.not_lt.1 hge);obtain ⟨h3,h4⟩:=h2 (by omega);obtain ⟨j,rfl⟩:=Int.eq_ofNat_of_zero_le h3;have hk : k < next.length:=by omega
  obtain ⟨an,b,o,cap,rfl,ha,hc1,hc2,hc⟩:=hn;obtain rfl:=ha (by omega);obtain ⟨x,hxc,hr⟩:=hc k hk;have hrow : next.getD (k : Int).toNat [] = next[k]:=by simp [List.getD_eq_getElem?_getD,hk]
  rw [hrow] at h4;obtain ⟨ar,br,orr,cr,rfl,har,hr1,hr2,hr3⟩:=hr.1;obtain rfl:=har (by omega);have hj : j < (next[k]).length:=by omega
  obtain ⟨y,hy,rfl,hy2⟩:=hr3 j hj;refine wp_skip ?_;refine wp_seq (ai [(6,Vi (next[k][j]))] (· = w2) af hS ?_ (fun a w3 hS hw=>?_))
  ·repeat refine zX rfl ?_
   refine zL rfl (hx.c2) ?_
   repeat refine zX rfl ?_
   refine zI rfl (rfl) (hk) ?_;refine zL rfl (keep hB hxc) ?_
   repeat refine zX rfl ?_
   refine zI rfl (rfl) (hj) ?_;refine zL rfl (keep hB hy) ?_
   repeat refine zX rfl ?_
   exact aj ⟨⟨rfl,trivial⟩,rfl⟩
  subst hw;have hk0 : ¬ (k : Int) < 0:=by omega
  refine wp_ret ?_
  repeat first|refine a8 ?_|refine am ?_
  refine ret1 hS rfl rfl ⟨by simp [dd,hk,hj,hk0],hB⟩
theorem tz (L s : Int) (vn ve : Value) (fin : List Bool) (st : Int) (w : World) (he : Sl w ve fin je) (h1 : st < fin.length) :
  Calls Tryz.prog 32 #[.agg #[Vi L,Vi s,vn,ve],Vi st] w fun e w'=>e = .returned (.bool (fo fin st)) ∧ RowKit.Below w.heap.size w w':=by
 refine Sym.c8 (args:=[.agg #[Vi L,Vi s,vn,ve],Vi st]) Tryz.func32 rfl rfl rfl (fun a0 hS0=>?_);refine wp_seq (ai [(1,Vi st),(2,Vp w.heap.size)] (· = w.alloc (.cells #[Vi L,Vi s,vn,ve] 25)) af hS0 ?_ (fun a wc hS hw=>?_))
 ·refine zB rfl ?_
  repeat refine zX rfl ?_
  exact aj ⟨⟨rfl,rfl,trivial⟩,rfl⟩
 obtain ⟨hB,hx⟩:=l6 hw;clear hw;replace he:=he.keep hB (fun _ _ h=>h);obtain ⟨hb,hhb⟩ : ∃ b,fo fin st = b:=⟨_,rfl⟩;refine wp_seq (ai [(4,.bool hb)] (· = wc) af hS ?_ (fun a w2 hS hw=>?_))
 ·repeat refine zX rfl ?_
  cases e1 : decide (0 ≤ st)
  case false=>
   obtain rfl : hb = false:=by rw [← hhb,fo,e1]; rfl
   refine zC rfl (e1) ?_
   repeat refine zX rfl ?_
   exact aj ⟨⟨rfl,trivial⟩,rfl⟩
  case true=>
   obtain ⟨k,rfl⟩:=Int.eq_ofNat_of_zero_le (of_decide_eq_true e1);obtain ⟨ae,be,oe,ce,rfl,hea,he1,he2,he3⟩:=he;have hk : k < fin.length:=by omega
   obtain rfl:=hea (by omega);obtain ⟨y,hy,rfl⟩:=he3 k hk;obtain rfl : hb = fin[k]:=by rw [← hhb]; simp [fo,hk]
   refine zC rfl (e1) ?_
   repeat refine zX rfl ?_
   refine zL rfl (hx.c3) ?_
   repeat refine zX rfl ?_
   refine zI rfl (rfl) (hk) ?_;refine zL rfl (hy) ?_
   repeat refine zX rfl ?_
   exact aj ⟨⟨rfl,trivial⟩,rfl⟩
 subst hw;refine wp_ret ?_
 repeat first|refine a8 ?_|refine am ?_
 refine ret1 hS rfl rfl ⟨by rw [hhb],hB⟩
theorem b5 (w : World) (o : Obj) : (w.alloc o).heap.size = w.heap.size + 1:=Array.size_push _
theorem lc {w wc : World} {L1 s1 L2 s2 : Int} {vn1 ve1 vn2 ve2 : Value} (hw : wc = (w.alloc (.cells #[Vi L1,Vi s1,vn1,ve1] 25)).alloc (.cells #[Vi L2,Vi s2,vn2,ve2] 25)) :
  RowKit.Below w.heap.size w wc ∧ Box wc w.heap.size L1 s1 vn1 ve1 ∧ Box wc (w.heap.size + 1) L2 s2 vn2 ve2:=by
 have h1:=ao w (.cells #[Vi L1,Vi s1,vn1,ve1] 25);have h2:=ao (w.alloc (.cells #[Vi L1,Vi s1,vn1,ve1] 25)) (.cells #[Vi L2,Vi s2,vn2,ve2] 25);have hs : (w.alloc (.cells #[Vi L1,Vi s1,vn1,ve1] 25)).heap.size = w.heap.size + 1:=b5 _ _;rw [hw];refine ⟨ak h1 h2,(Box.new w L1 s1 vn1 ve1 25).keep h2,?_⟩
 have:=Box.new (w.alloc (.cells #[Vi L1,Vi s1,vn1,ve1] 25)) L2 s2 vn2 ve2 25
 rw [hs] at this;exact this
theorem xx (L1 s1 L2 s2 : Int) (vn1 ve1 vn2 ve2 : Value) (n1 n2 : List (List Int)) (f1 f2 : List Bool) (w : World) (hm : Ma w L1 s1 n1 f1 vn1 ve1) (hm2 : Ma w L2 s2 n2 f2 vn2 ve2) :
  Calls Tryz.prog 33 #[.agg #[Vi L1,Vi s1,vn1,ve1],.agg #[Vi L2,Vi s2,vn2,ve2]] w fun e w'=>e = .returned (Vi (twoM L1 s1 n1 f1 L2 s2 n2 f2)) ∧ RowKit.Below w.heap.size w w':=by
 refine Sym.c8 (args:=[.agg #[Vi L1,Vi s1,vn1,ve1],.agg #[Vi L2,Vi s2,vn2,ve2]]) Tryz.func33 rfl rfl rfl (fun a0 hS0=>?_);obtain ⟨B,hBB⟩ : ∃ B,B = w.heap.size:=⟨_,rfl⟩;refine wp_seq (ai [(2,Vp B),(3,Vp (B + 1))] (· = (w.alloc (.cells #[Vi L1,Vi s1,vn1,ve1] 25)).alloc (.cells #[Vi L2,Vi s2,vn2,ve2] 25)) af hS0 ?_ (fun a wc hS hw=>?_))
 ·subst hBB;refine zB rfl ?_;refine zB rfl ?_;rw [b5]
  repeat refine zX rfl ?_
  exact aj ⟨⟨rfl,rfl,trivial⟩,rfl⟩
 obtain ⟨hB,hx1,hx2⟩:=lc hw;rw [← hBB] at hx1 hx2;clear hw;replace hm:=hm.keep hB;replace hm2:=hm2.keep hB;refine wp_seq (wp_seq (ai [(2,Vp B),(3,Vp (B + 1)),(12,.bool (decide (de L1 s1 n1 f1 ≠ 0) || decide (de L2 s2 n2 f2 ≠ 0)))] (fun w'=>RowKit.Below wc.heap.size wc w') af hS ?_ (fun a w2 hS hw=>?_)))
 ·refine zA ([Vi L1,Vi s1,vn1,ve1]) rfl rfl (⟨hx1.c0,hx1.c1,hx1.c2,hx1.c3,trivial⟩) ?_;refine zF rfl (l4) (jl L1 s1 vn1 ve1 n1 f1 wc hm) ?_;rintro e w3 ⟨rfl,h3⟩;refine ⟨_,rfl,?_⟩;have hx2':=hx2.keep h3;have hm2':=hm2.keep h3
  cases h1 : decide (de L1 s1 n1 f1 ≠ 0)
  case true=>
   refine zC rfl (h1) ?_
   repeat refine zX rfl ?_
   exact aj ⟨⟨rfl,rfl,rfl,trivial⟩,h3⟩
  refine zC rfl (h1) ?_
  repeat refine zX rfl ?_
  refine zA ([Vi L2,Vi s2,vn2,ve2]) rfl rfl (⟨hx2'.c0,hx2'.c1,hx2'.c2,hx2'.c3,trivial⟩) ?_;refine zF rfl (l4) (jl L2 s2 vn2 ve2 n2 f2 w3 hm2') ?_;rintro e w4 ⟨rfl,h4⟩;refine ⟨_,rfl,?_⟩;refine zC rfl (rfl) ?_
  repeat refine zX rfl ?_
  exact aj ⟨⟨rfl,rfl,rfl,trivial⟩,ak h3 h4⟩
 replace hx1:=hx1.keep hw;replace hx2:=hx2.keep hw;replace hB:=ak hB hw;clear hw;refine cond hS rfl (fun hT=>?_) (fun hF=>?_)
 ·refine wp_seq (ai [(4,Vi 1)] (· = w2) af hS ?_ (fun a w3 hS hw=>?_))
  ·repeat refine zX rfl ?_
   exact aj ⟨⟨rfl,trivial⟩,rfl⟩
  subst hw;refine wp_ret ?_
  repeat first|refine a8 ?_|refine am ?_
  refine ret1 hS rfl rfl ⟨?_,hB⟩;simp only [Bool.or_eq_true,decide_eq_true_eq] at hT;unfold twoM
  split
  ·rfl
  ·rename_i h;rw [if_pos (hT.resolve_left h)]
 simp only [Bool.or_eq_false_iff,decide_eq_false_iff_not] at hF;refine wp_skip ?_;refine wp_seq (wp_seq (ai [(17,.bool (decide (L1 ≠ L2)))] (· = w2) af hS ?_ (fun a w3 hS hw=>?_)))
 ·repeat refine zX rfl ?_
  refine zL rfl (hx1.c0) ?_
  repeat refine zX rfl ?_
  refine zL rfl (hx2.c0) ?_;refine zC rfl (rfl) ?_
  repeat refine zX rfl ?_
  exact aj ⟨⟨rfl,trivial⟩,rfl⟩
 subst hw;refine cond hS rfl (fun hT=>?_) (fun hF2=>?_)
 ·refine wp_seq (ai [(4,Vi 4)] (· = w3) af hS ?_ (fun a w4 hS hw=>?_))
  ·repeat refine zX rfl ?_
   exact aj ⟨⟨rfl,trivial⟩,rfl⟩
  subst hw;refine wp_ret ?_
  repeat first|refine a8 ?_|refine am ?_
  exact ret1 hS rfl rfl ⟨by unfold twoM; rw [if_neg hF.1,if_neg hF.2,if_pos (of_decide_eq_true hT)],hB⟩
 refine wp_skip ?_;refine wp_seq (ai [(4,Vi 0)] (· = w3) af hS ?_ (fun a w4 hS hw=>?_))
 ·repeat refine zX rfl ?_
  exact aj ⟨⟨rfl,trivial⟩,rfl⟩
 subst hw;refine wp_ret ?_
 repeat first|refine a8 ?_|refine am ?_
 exact ret1 hS rfl rfl ⟨by unfold twoM; rw [if_neg hF.1,if_neg hF.2,if_neg (of_decide_eq_false hF2)],hB⟩
theorem aav (L : Int) (next : List (List Int)) (fin : List Bool) {st : Int} (h : st < 0) : ∀ l,goM L next fin st l = false
 | []=>by
   have : decide (0 ≤ st) = false:=decide_eq_false (by omega);simp [goM,fo,this]
 | x :: r=>by
   have : decide (0 ≤ st) = false:=decide_eq_false (by omega);simp [goM,fo,this]
theorem ajd (L : Int) (next : List (List Int)) (fin : List Bool) (st x : Int) (r : List Int) (hx : (decide (x < 0) || decide (L ≤ x)) = false) : goM L next fin st (x :: r) = goM L next fin (dd next st x) r:=by
 by_cases h : st < 0
 ·rw [aav L next fin h,i7 next h,aav L next fin (by omega)]
 ·have : decide (0 ≤ st) = true:=decide_eq_true (by omega);rw [goM,this,hx]
theorem goM_bad (L : Int) (next : List (List Int)) (fin : List Bool) (st x : Int) (r : List Int) (hx : (decide (x < 0) || decide (L ≤ x)) = true) : goM L next fin st (x :: r) = false:=by
 by_cases h : st < 0
 ·rw [aav L next fin h]
 ·have : decide (0 ≤ st) = true:=decide_eq_true (by omega);rw [goM,this,hx]
theorem zk (L s : Int) (vn ve vw : Value) (next : List (List Int)) (fin : List Bool) (word : List Int) (w : World) (hm : Ma w L s next fin vn ve) (hwd : Sl w vw word PInt) :
  Calls Tryz.prog 10 #[.agg #[Vi L,Vi s,vn,ve],vw] w fun e w'=>e = .returned (.bool (fq L s next fin word)) ∧ RowKit.Below w.heap.size w w':=by
 refine Sym.c8 (args:=[.agg #[Vi L,Vi s,vn,ve],vw]) Tryz.func10 rfl rfl rfl (fun a0 hS0=>?_);obtain ⟨B,hBB⟩ : ∃ B,B = w.heap.size:=⟨_,rfl⟩;refine wp_seq (ai [(1,vw),(2,Vp B)] (· = w.alloc (.cells #[Vi L,Vi s,vn,ve] 25)) af hS0 ?_ (fun a wc hS hw=>?_))
 ·subst hBB;refine zB rfl ?_
  repeat refine zX rfl ?_
  exact aj ⟨⟨rfl,rfl,trivial⟩,rfl⟩
 obtain ⟨hB,hx⟩:=l6 hw;rw [← hBB] at hx;clear hw;replace hm:=hm.keep hB;replace hwd:=hwd.keep hB (fun _ _ h=>h);refine wp_seq (wp_seq (ai [(1,vw),(2,Vp B),(10,.bool (decide (de L s next fin ≠ 0)))] (fun w'=>RowKit.Below wc.heap.size wc w') af hS ?_ (fun a w2 hS hw=>?_)))
 ·refine zA ([Vi L,Vi s,vn,ve]) rfl rfl (⟨hx.c0,hx.c1,hx.c2,hx.c3,trivial⟩) ?_;refine zF rfl (l4) (jl L s vn ve next fin wc hm) ?_;rintro e w3 ⟨rfl,h3⟩;refine ⟨_,rfl,?_⟩;refine zC rfl (rfl) ?_
  repeat refine zX rfl ?_
  exact aj ⟨⟨rfl,rfl,rfl,trivial⟩,h3⟩
 replace hx:=hx.keep hw;replace hm:=hm.keep hw;replace hwd:=hwd.keep hw (fun _ _ h=>h);replace hB:=ak hB hw;clear hw;refine cond hS rfl (fun hT=>?_) (fun hF=>?_)
 ·refine wp_seq (ai [(4,.bool false)] (· = w2) af hS ?_ (fun a w3 hS hw=>?_))
  ·repeat refine zX rfl ?_
   exact aj ⟨⟨rfl,trivial⟩,rfl⟩
  subst hw;refine wp_ret ?_
  repeat first|refine a8 ?_|refine am ?_
  exact ret1 hS rfl rfl ⟨by unfold fq; rw [hT],hB⟩
 have hacc : fq L s next fin word = goM L next fin s word:=by unfold fq; rw [hF]
 have hv:=Decidable.not_not.1 (of_decide_eq_false hF);obtain ⟨hsh,hL3,-⟩:=db hv;refine wp_skip ?_;refine wp_seq (ai [(1,vw),(2,Vp B),(5,Vi s)] (· = w2) af hS ?_ (fun a w3 hS hw=>?_))
 ·repeat refine zX rfl ?_
  refine zL rfl (hx.c1) ?_
  repeat refine zX rfl ?_
  exact aj ⟨⟨rfl,rfl,rfl,trivial⟩,rfl⟩
 subst hw;obtain ⟨aw,bw,ow,cw,hvw,haw,hw1,hw2,hw3⟩:=hwd;refine wp_seq (wp_seq (ai [(2,Vp B),(5,Vi s),(13,vw),(14,Vi word.length),(15,Vi (0 : Nat))] (· = w3) af hS ?_ (fun a w4 hS hw=>?_)))
 ·subst hvw
  repeat refine zX rfl ?_
  exact aj ⟨⟨rfl,rfl,rfl,rfl,rfl,trivial⟩,rfl⟩
 subst hw;refine wp_block (cz hS (fun g E wr=>∃ (k : Nat) (st : Int),k ≤ word.length ∧ g = word.length - k ∧ E = [(2,Vp B),(5,Vi st),(13,vw),(14,Vi word.length),(15,Vi k)] ∧ RowKit.Below w4.heap.size w4 wr ∧ -1 ≤ st ∧ st < next.length ∧ goM L next fin s word = goM L next fin st (word.drop k)) word.length ⟨0,s,by omega,by omega,rfl,RowKit.Below.refl _ _,hsh.s1,hsh.s2,rfl⟩ ?_);clear hS;rintro g E w5 a ⟨k,st,hk,rfl,rfl,hK,hst1,hst2,hgo⟩ hS;refine wp_seq (ai [(2,Vp B),(5,Vi st),(13,vw),(14,Vi word.length),(15,Vi k),(16,.bool (decide (k < word.length)))] (· = w5) af hS ?_ (fun a w6 hS hw=>?_))
 ·repeat refine zX rfl ?_
  refine zC rfl (co _ _) ?_
  repeat refine zX rfl ?_
  exact aj ⟨⟨rfl,rfl,rfl,rfl,rfl,rfl,trivial⟩,rfl⟩
 subst hw;refine wp_seq (cond hS rfl (fun hT=>wp_skip ?_) (fun hF=>?_))
 rotate_left
 ·have hkk : k = word.length:=by have:=of_decide_eq_false hF; omega
  subst hkk;rw [List.drop_length] at hgo;refine wp_exit ?_
  repeat first|refine bf ?_|refine ba ?_|refine az rfl ?_
  refine wp_seq (ai [(4,.bool (fo fin st))] (fun w'=>RowKit.Below w6.heap.size w6 w') af hS ?_ (fun a w7 hS hw=>?_))
  ·refine zA ([Vi L,Vi s,vn,ve]) rfl rfl (⟨keep hK hx.c0,keep hK hx.c1,keep hK hx.c2,keep hK hx.c3,trivial⟩) ?_
   repeat refine zX rfl ?_
   refine zF rfl (xm) (tz L s vn ve fin st w6 (hm.e.keep hK (fun _ _ h=>h)) (by rw [hsh.fin]; exact hst2)) ?_;rintro e w3 ⟨rfl,h3⟩;refine ⟨_,rfl,?_⟩
   repeat refine zX rfl ?_
   exact aj ⟨⟨rfl,trivial⟩,h3⟩
  refine wp_ret ?_
  repeat first|refine a8 ?_|refine am ?_
  refine ret1 hS rfl rfl ⟨?_,ak (ak hB hK) hw⟩;rw [hacc,hgo]; rfl
 have hkk : k < word.length:=of_decide_eq_true hT;obtain rfl:=haw (by omega);obtain ⟨x,hxw,rfl,-⟩:=hw3 k hkk;rw [List.drop_eq_getElem_cons hkk] at hgo;refine wp_seq (wp_block (wp_seq (ai [(2,Vp B),(5,Vi st),(13,vw),(14,Vi word.length),(15,Vi k),(7,Vi word[k])] (· = w6) af hS ?_ (fun a w7 hS hw=>?_))))
 ·subst hvw;refine zI rfl (rfl) (hkk) ?_;refine zL rfl (keep hK hxw) ?_
  repeat refine zX rfl ?_
  exact aj ⟨⟨rfl,rfl,rfl,rfl,rfl,rfl,trivial⟩,rfl⟩
 subst hw;refine wp_seq (wp_seq (ai [(2,Vp B),(5,Vi st),(13,vw),(14,Vi word.length),(15,Vi k),(7,Vi word[k]),(26,.bool (decide (word[k] < 0) || decide (L ≤ word[k])))] (· = w7) af hS ?_ (fun a w8 hS hw=>?_)))
 ·repeat refine zX rfl ?_
  cases h1 : decide (word[k] < 0)
  case true=>
   refine zC rfl (h1) ?_
   repeat refine zX rfl ?_
   exact aj ⟨⟨rfl,rfl,rfl,rfl,rfl,rfl,rfl,trivial⟩,rfl⟩
  refine zC rfl (h1) ?_
  repeat refine zX rfl ?_
  refine zL rfl (keep hK hx.c0) ?_;refine zC rfl (rfl) ?_
  repeat refine zX rfl ?_
  exact aj ⟨⟨rfl,rfl,rfl,rfl,rfl,rfl,rfl,trivial⟩,rfl⟩
 subst hw;refine cond hS rfl (fun hT=>?_) (fun hF=>?_)
 ·refine wp_seq (ai [(4,.bool false)] (· = w8) af hS ?_ (fun a w9 hS hw=>?_))
  ·repeat refine zX rfl ?_
   exact aj ⟨⟨rfl,trivial⟩,rfl⟩
  subst hw;refine wp_ret ?_
  repeat first|refine a8 ?_|refine am ?_
  refine ret1 hS rfl rfl ⟨?_,ak hB hK⟩;rw [hacc,hgo,goM_bad _ _ _ _ _ _ hT]
 refine wp_skip ?_;have hrange:=hF;simp only [Bool.or_eq_false_iff,decide_eq_false_iff_not] at hrange;refine ai [(2,Vp B),(5,Vi (dd next st word[k])),(13,vw),(14,Vi word.length),(15,Vi k)] (fun w'=>RowKit.Below w8.heap.size w8 w') af hS ?_ (fun a w9 hS hw=>?_)
 ·refine zA ([Vi L,Vi s,vn,ve]) rfl rfl (⟨keep hK hx.c0,keep hK hx.c1,keep hK hx.c2,keep hK hx.c3,trivial⟩) ?_
  repeat refine zX rfl ?_
  refine zF rfl (qs) (om L s vn ve next st word[k] w8 (hm.n.keep hK (fun _ _ h=>PRow.keep hK h)) hst2 (fun h0=>⟨by omega,by rw [row_len hsh h0 hst2]; omega⟩)) ?_;rintro e w3 ⟨rfl,h3⟩;refine ⟨_,rfl,?_⟩
  repeat refine zX rfl ?_
  exact aj ⟨⟨rfl,rfl,rfl,rfl,rfl,trivial⟩,h3⟩
 refine ay ?_;refine ai [(2,Vp B),(5,Vi (dd next st word[k])),(13,vw),(14,Vi word.length),(15,Vi (k + 1 : Nat))] (· = w9) af hS ?_ (fun a w10 hS hw2=>?_)
 ·repeat refine zX rfl ?_
  refine zN rfl (bm k 1 (by omega)) ?_
  repeat refine zX rfl ?_
  exact aj ⟨⟨rfl,rfl,rfl,rfl,rfl,trivial⟩,rfl⟩
 subst hw2;have hr:=e8 hsh (st:=st) (l:=word[k]) hst2 (by omega) (by omega);exact ⟨word.length - (k + 1),_,by omega,⟨k + 1,dd next st word[k],by omega,rfl,rfl,ak hK hw,hr.1,hr.2,by rw [hgo,ajd _ _ _ _ _ _ hF]⟩,hS⟩
theorem aeg : acw 10:=fun L s vn ve vw next fin word w hm hw=>zk L s vn ve vw next fin word w hm hw
end
section
open Go Sym
abbrev DU:=DataW Unit
def MapF {α : Type} (kl : α → Lit) (k : TypeId) (w : World) (b n : Nat) (f : α → Option Nat) : Prop:=
 ∃ D : DU,w.ownsMap Tryz.prog k (plainElem Tryz.prog 3) b n D ∧ ∀ x,Maps.has D (kl x) = (f x).isSome ∧ ∀ v,f x = some v → D.atKey (kl x) (.lit (.int .i64 0)) = .lit (.int .i64 (v : Int))
section
variable {α : Type} {kl : α → Lit} {kv : α → Value} {k t : TypeId} {w w' : World} {b n : Nat} {f : α → Option Nat}
theorem aeo {v : Nat} (h : v ≤ 9223372036854775807) : (Lit.int .i64 (v : Int)).wf = true:=by
 simp only [Lit.wf,Bool.and_eq_true,decide_eq_true_eq];simp only [IntKind.min,IntKind.max,IntKind.bits,IntKind.signed]
 constructor <;> simp <;> omega
theorem MapF.made (kl : α → Lit) (k : TypeId) (w : World) : MapF kl k (w.alloc (.map #[] 0)) w.heap.size 0 (fun _=>none):=
 ⟨.map [],World.ownsMap_made w _ _ _,fun x=>⟨rfl,fun v h=>by cases h⟩⟩
theorem MapF.kept {row : Option Nat} (h : MapF kl k w b n f) (hg : w.grownBy w' row) (hne : some b ≠ row) : MapF kl k w' b n f:=by
 obtain ⟨D,h,h2⟩:=h;exact ⟨D,h.kept hg hne,h2⟩
theorem MapF.below (h : MapF kl k w b n f) (hb : RowKit.Below w.heap.size w w') : MapF kl k w' b n f:=h.kept (et hb) (by simp)
theorem ah2 (w : World) : (zeroValue 3).run Tryz.prog w = .ok (Vi 0) w:=by
 have hi : (Tryz.prog.info? 3).map (fun i=>i.zero) = some (some (Vi 0)):=by kernel_rfl
 obtain ⟨i,h1,h2⟩:=Option.map_eq_some_iff.1 hi;simp [zeroValue,typeInfo,h1,h2]
theorem o7 : Tryz.prog.underlying 3 = some (.int .i64):=by kernel_rfl
theorem MapF.look (h : MapF kl k w b n f) (K : Maps.Keyed Tryz.prog k) (ht : Tryz.prog.underlying t = some (.map k 3)) (x : α) (hk : keyOf Tryz.prog k (kv x) = some (kl x)) :
  (Instr.lookup t (.map (some b)) (kv x) true).run Tryz.prog w = .ok (.tuple #[Vi (((f x).getD 0 : Nat) : Int),.bool (f x).isSome]) w:=by
 obtain ⟨D,h,h2⟩:=h;obtain ⟨v,ps,hrun,hv⟩:=h.look_ok K ht (ah2 w) (plainElem_int o7 (aeo (v:=0) (by omega))) hk;obtain ⟨a,rfl,hz⟩:=plainElem_int_inv o7 hv;obtain ⟨hz1,hz2⟩:=hz;simp only [Prod.mk.injEq] at hz1;obtain ⟨h3,h4⟩:=h2 x;rw [h3] at hrun
 have key : a = (((f x).getD 0 : Nat) : Int):=by
  cases hf : f x with
  | none=>
    rw [hf] at h3;have e:=Maps.atKey_of_not_has h3 (.lit (.int .i64 0));have e2:=hz1.1;rw [e] at e2;simp only [DataW.lit.injEq,Lit.int.injEq,true_and] at e2;simp [← e2]
  | some u=>
    have e:=h4 u hf;have e2:=hz1.1;rw [e] at e2;simp only [DataW.lit.injEq,Lit.int.injEq,true_and] at e2;simp [e2]
 rw [hrun,key]
theorem MapF.put [DecidableEq α] (h : MapF kl k w b n f) (K : Maps.Keyed Tryz.prog k) (ht : Tryz.prog.underlying t = some (.map k 3)) (hn : n < maxLen) (x : α) (hk : keyOf Tryz.prog k (kv x) = some (kl x)) (hinj : ∀ y,kl y = kl x → y = x) {v : Nat} (hv : v ≤ 9223372036854775807) :
  ∃ w',(Instr.mapUpdate t (.map (some b)) (kv x) (Vi v)).run Tryz.prog w = .ok () w' ∧ MapF kl k w' b (n + 1) (fun y=>if y = x then some v else f y) ∧ w.grownBy w' (some b):=by
 obtain ⟨D,h,h2⟩:=h;obtain ⟨w',hrun,ho,hg⟩:=h.update K ht hn hk (plainElem_int o7 (aeo hv));refine ⟨w',hrun,⟨_,ho,fun y=>?_⟩,hg⟩
 by_cases hy : y = x
 ·subst hy;dsimp only;rw [if_pos rfl,Maps.has_put_same h.isMap (K.key hk)];refine ⟨rfl,fun u hu=>?_⟩
  try rw [if_pos rfl] at hu
  simp only [Option.some.injEq] at hu;subst hu;exact Maps.atKey_put_same h.isMap (K.key hk) _ _
 ·have hne : kl y ≠ kl x:=fun e=>hy (hinj y e);simp only [if_neg hy];rw [Maps.has_put_other hne];refine ⟨(h2 y).1,fun u hu=>?_⟩;rw [Maps.atKey_put_other hne];exact (h2 y).2 u hu
variable {base : Nat} {w0 : World} {l : List Ow}
theorem aga {e s m : Nat} {v : Value} {xs : List Value} (h : MapF kl k w b n f) (hr : w.ownsRow base e s v m xs) : some b ≠ v.ownBlock:=by
 obtain ⟨D,⟨es,clock,hb,_⟩,_⟩:=h
 rcases hr.2 with ⟨rfl,_⟩ | ⟨g,cap,cur,rfl,_,hg,_⟩
 ·simp [Value.ownBlock]
 ·intro e;simp only [Value.ownBlock,Option.some.injEq] at e;subst e;rw [hb] at hg
  cases hg
theorem MapF.row {i : Nat} {o : Ow} (h : MapF kl k w b n f) (hr : Rows base w l) (hi : l[i]? = some o) (hg : w.grownBy w' o.v.ownBlock) : MapF kl k w' b n f:=
 h.kept hg (aga h (hr.1 i o hi))
theorem MapF.store {i g m m' c e s j : Nat} {xs : List Value} {u : Value} (h : MapF kl k w b n f) (hr : Rows base w l) (hi : l[i]? = some ⟨Vs g m c,e,s,m',xs⟩) : MapF kl k (w.setCell ⟨g,j,none⟩ u) b n f:=
 h.row hr hi (jc w g j u)
theorem Hold.map (h : Hold base w0 w l) (hm : MapF kl k w b n f) (hb : base ≤ b) (hg : w.grownBy w' (some b)) : Hold base w0 w' l:=
 ⟨⟨fun i o hi=>(h.r.1 i o hi).kept hg (by
   cases ho : o.v.ownBlock with
   | none=>exact .inl rfl
   | some x=>
     have:=aga hm (h.r.1 i o hi)
     rw [ho] at this;exact .inr (Ne.symm this)),h.r.2⟩,
  ⟨hg.os.trans h.b.os,hg.tape.trans h.b.tape,hg.output.trans h.b.output,Nat.le_trans h.b.size hg.size,fun q hq=>(hg.block q (Nat.lt_of_lt_of_le hq h.s) (fun e=>by simp only [Option.some.injEq] at e; omega)).trans (h.b.block q hq)⟩,
  Nat.le_trans h.s hg.size⟩
end
abbrev natL (x : Nat) : Lit:=.int .i64 (x : Int)
abbrev natV (x : Nat) : Value:=Vi x
theorem natK : Maps.Keyed Tryz.prog 3:=Maps.int_keyed o7
theorem aix (x : Nat) : ∀ y,natL y = natL x → y = x:=fun y h=>by
 simp only [natL,Lit.int.injEq,true_and] at h;omega
theorem ake {x : Nat} (h : x ≤ 9223372036854775807) : keyOf Tryz.prog 3 (natV x) = some (natL x):=Maps.keyOf_int_mk o7 (aeo h)
theorem abl : Tryz.prog.underlying 135 = some (.map 3 3):=by kernel_rfl
abbrev MapN (w : World) (b n : Nat) (f : Nat → Option Nat) : Prop:=MapF natL 3 w b n f
theorem MapN.look {w : World} {b n : Nat} {f : Nat → Option Nat} (h : MapN w b n f) {x : Nat} (hx : x ≤ 9223372036854775807) :
  (Instr.lookup 135 (.map (some b)) (Vi x) true).run Tryz.prog w = .ok (.tuple #[Vi (((f x).getD 0 : Nat) : Int),.bool (f x).isSome]) w:=MapF.look (kv:=natV) h natK abl x (ake hx)
theorem MapN.put {w : World} {b n : Nat} {f : Nat → Option Nat} (h : MapN w b n f) (hn : n < maxLen) {x v : Nat} (hx : x ≤ 9223372036854775807) (hv : v ≤ 9223372036854775807) :
  ∃ w',(Instr.mapUpdate 135 (.map (some b)) (Vi x) (Vi v)).run Tryz.prog w = .ok () w' ∧ MapN w' b (n + 1) (fun y=>if y = x then some v else f y) ∧ w.grownBy w' (some b):=
 MapF.put (kv:=natV) h natK abl hn x (ake hx) (aix x) hv
end
section
structure PartsI (bs : List Blk) (c0 q : Nat) (f : Nat → Option Nat) (B : List Nat) : Prop where
 f1 : ∀ P v,f P = some v → P < c0 ∧ v < q ∧ (v = P ∨ (c0 ≤ v ∧ (gb bs v).parent = P))
 f2 : ∀ b,c0 ≤ b → b < q → b ∈ B ∨ b = (f (gb bs b).parent).getD (gb bs b).parent
 f3 : ∀ P,P < c0 → P ∈ B ∨ (f P).getD P = P
 f4 : ∀ x ∈ B,x < q
theorem PartsI.start (bs : List Blk) (c0 : Nat) : PartsI bs c0 c0 (fun _=>none) []:=
 ⟨fun P v h=>(by cases h),fun b h1 h2=>by omega,fun P _=>.inr rfl,fun x h=>by cases h⟩
theorem PartsI.step {bs : List Blk} {c0 q : Nat} {f : Nat → Option Nat} {B : List Nat} (h : PartsI bs c0 q f B) (hq : c0 ≤ q) {P : Nat} (hP : (gb bs q).parent = P) (hPc : P < c0) {rv sm : Nat}
  (hc : (rv = q ∧ sm = (f P).getD P) ∨ (rv = (f P).getD P ∧ sm = q)) : PartsI bs c0 (q + 1) (fun y=>if y = P then some rv else f y) (B ++ [sm]):=by
 have hr : (f P).getD P < q ∧ ((f P).getD P = P ∨ (c0 ≤ (f P).getD P ∧ (gb bs ((f P).getD P)).parent = P)):=by
  cases hf : f P with
  | none=>exact ⟨by simp; omega,.inl rfl⟩
  | some v=>
    have:=h.f1 P v hf
    exact ⟨this.2.1,this.2.2⟩
 refine ⟨fun P' v hv=>?_,fun b h1 h2=>?_,fun P' hP'=>?_,fun x hx=>?_⟩
 ·by_cases e : P' = P
  ·subst e;simp only [if_true,Option.some.injEq] at hv;subst hv;refine ⟨hPc,?_⟩
   rcases hc with ⟨rfl,_⟩ | ⟨rfl,_⟩
   ·exact ⟨by omega,.inr ⟨hq,hP⟩⟩
   ·exact ⟨by omega,hr.2⟩
  ·rw [if_neg e] at hv
   have:=h.f1 P' v hv
   exact ⟨this.1,by omega,this.2.2⟩
 ·by_cases e : b = q
  ·subst e;simp only [hP,if_true,Option.getD_some]
   rcases hc with ⟨rfl,_⟩ | ⟨_,rfl⟩
   ·exact .inr rfl
   ·exact .inl (by simp)
  ·rcases h.f2 b h1 (by omega) with h3 | h3
   ·exact .inl (List.mem_append_left _ h3)
   ·by_cases e2 : (gb bs b).parent = P
    ·rw [e2] at h3 ⊢;simp only [if_true,Option.getD_some]
     rcases hc with ⟨_,rfl⟩ | ⟨rfl,_⟩
     ·exact .inl (by rw [← h3]; simp)
     ·exact .inr h3
    ·rw [if_neg e2]; exact .inr h3
 ·by_cases e : P' = P
  ·subst e;simp only [if_true,Option.getD_some]
   rcases h.f3 P' hP' with h3 | h3
   ·exact .inl (List.mem_append_left _ h3)
   ·rcases hc with ⟨_,rfl⟩ | ⟨rfl,_⟩
    ·exact .inl (by rw [h3]; simp)
    ·exact .inr h3
  ·rw [if_neg e];exact (h.f3 P' hP').imp (List.mem_append_left _) id
 ·rcases List.mem_append.1 hx with h3 | h3
  ·have:=h.f4 x h3; omega
  ·rw [List.mem_singleton] at h3;subst h3
   rcases hc with ⟨_,rfl⟩ | ⟨_,rfl⟩ <;> omega
theorem PartsI.tells {p : Pt} {R c0 c1 : Nat} {f : Nat → Option Nat} {B : List Nat} (h : PartsI p.bs c0 c1 f B) (h0 : gt p.cs (R - 1) = c0) (h1 : gt p.cs R = c1) : aj6 p R B:=by
 intro x y hx hy hne e;rw [h0] at e;rw [h1] at hx hy
 have key : ∀ z,z < c1 → z ∈ B ∨ z = (f (upB p.bs c0 z)).getD (upB p.bs c0 z):=fun z hz=>by
  unfold upB
  split
  ·rename_i hc; exact h.f2 z hc hz
  ·rename_i hc
   rcases h.f3 z (by omega) with h3 | h3
   ·exact .inl h3
   ·exact .inr h3.symm
 rcases key x hx with h3 | h3
 ·exact .inl h3
 ·rcases key y hy with h4 | h4
  ·exact .inr h4
  ·rw [← e] at h4;exact (hne (h3.trans h4.symm)).elim
def Pt.mem (p : Pt) (b : Nat) : List Nat:=(p.st.drop (gb p.bs b).first).take (gb p.bs b).size
theorem lr {p : Pt} {N b : Nat} {todo : List Nat} (h : PI p N todo) (hb : b < p.bs.length) : (p.mem b).length = (gb p.bs b).size:=by
 have:=h.bd b hb
 simp only [Pt.mem,List.length_take,List.length_drop,h.st];omega
theorem wv {p : Pt} {b j : Nat} (hj : j < (gb p.bs b).size) : gt (p.mem b) j = gt p.st ((gb p.bs b).first + j):=by
 show ((p.st.drop (gb p.bs b).first).take (gb p.bs b).size).getD j 0 = p.st.getD ((gb p.bs b).first + j) 0;rw [List.getD_eq_getElem?_getD,List.getD_eq_getElem?_getD,List.getElem?_take,if_pos hj,List.getElem?_drop]
theorem mem_iff {p : Pt} {N b : Nat} {todo : List Nat} (h : PI p N todo) (hb : b < p.bs.length) (s : Nat) : s ∈ p.mem b ↔ s < N ∧ gt p.bl s = b:=by
 have hbd:=h.bd b hb
 constructor
 ·intro hs;obtain ⟨j,hj,e⟩:=List.mem_iff_getElem.1 hs;have hj' : j < (gb p.bs b).size:=by rw [← lr h hb]; exact hj
  have e2 : s = gt p.st ((gb p.bs b).first + j):=by
   rw [← wv hj',← e]; simp [gt,List.getD_eq_getElem?_getD,hj]
  rw [e2];exact ⟨(h.sp _ (by omega)).1,h.own b hb _ (by omega) (by omega)⟩
 ·rintro ⟨hs,rfl⟩;have h1:=h.inn s hs;have h2:=h.ps s hs;obtain ⟨j,hj⟩ : ∃ j,gt p.pl s = (gb p.bs (gt p.bl s)).first + j:=⟨gt p.pl s - (gb p.bs (gt p.bl s)).first,by omega⟩;have hj' : j < (gb p.bs (gt p.bl s)).size:=by omega
  have hjl : j < (p.mem (gt p.bl s)).length:=by rw [lr h hb]; exact hj'
  have:=wv hj'
  rw [← hj,h2.2] at this
  have g1 : gt (p.mem (gt p.bl s)) j = (p.mem (gt p.bl s))[j]:=by
   show (p.mem (gt p.bl s)).getD j 0 = _;rw [List.getD_eq_getElem?_getD,List.getElem?_eq_getElem hjl]; rfl
  have h5 : (p.mem (gt p.bl s))[j] ∈ p.mem (gt p.bl s):=List.getElem_mem hjl;rw [← g1,this] at h5;exact h5
theorem af7 {p : Pt} {N b : Nat} {todo : List Nat} (h : PI p N todo) (hb : b < p.bs.length) : (p.mem b).Nodup:=by
 have hbd:=h.bd b hb;rw [List.nodup_iff_pairwise_ne,List.pairwise_iff_getElem];intro i j hi hj hij e;rw [lr h hb] at hi hj;have e1:=wv hi;have e2:=wv hj;have hi' : i < (p.mem b).length:=by rw [lr h hb]; exact hi
 have hj' : j < (p.mem b).length:=by rw [lr h hb]; exact hj
 have g1 : gt (p.mem b) i = (p.mem b)[i]:=by simp [gt,List.getD_eq_getElem?_getD,hi']
 have g2 : gt (p.mem b) j = (p.mem b)[j]:=by simp [gt,List.getD_eq_getElem?_getD,hj']
 have : gt p.st ((gb p.bs b).first + i) = gt p.st ((gb p.bs b).first + j):=by rw [← e1,← e2,g1,g2,e]
 have h1:=(h.sp ((gb p.bs b).first + i) (by omega)).2;have h2:=(h.sp ((gb p.bs b).first + j) (by omega)).2;rw [this,h2] at h1;omega
end
section
open Go Sym
theorem ajm : bk Tryz.prog 86 = true:=by kernel_rfl
theorem aji : bk Tryz.prog 71 = true:=by kernel_rfl
theorem aco {cell : Addr → Option Value} {b : Nat} : ∀ (l : List Value) (o : Nat),(∀ i (h : i < l.length),cell ⟨b,o + i,none⟩ = some l[i]) → ca cell b o l
 | [],_,_=>trivial
 | v :: r,o,h=>⟨h 0 (by simp),aco r (o + 1) (fun i hi=>by
   have:=h (i + 1) (by simp; omega)
   rw [show o + 1 + i = o + (i + 1) by omega]
   simpa using this)⟩
section
variable {w : World}
theorem ahh {g o c : Nat} {l : List Nat} (hl : 0 < l.length) (hn : l.length ≤ 100000000) (hc : ca w.cell? g o (n32s l)) :
  Calls Tryz.prog 86 #[.slice (some ⟨g,o,none⟩) l.length c] w fun e w'=>∃ v',e = .returned v' ∧ w.grownBy w' none ∧ w'.ownsRow w.heap.size 21 1 v' l.length (n32s l):=by
 refine Sym.c8 (args:=[.slice (some ⟨g,o,none⟩) l.length c]) Tryz.func86 rfl rfl rfl (fun a0 hS0=>?_);refine wp_seq (ai [(0,.slice (some ⟨g,o,none⟩) l.length c)] (· = w) af hS0 ?_ (fun a w1 hS hw=>?_))
 ·repeat refine zX rfl ?_
  exact aj ⟨⟨rfl,trivial⟩,rfl⟩
 subst hw;refine wp_seq (wp_seq (ai [(0,.slice (some ⟨g,o,none⟩) l.length c),(4,.bool false)] (· = w1) af hS ?_ (fun a w2 hS hw=>?_)))
 ·repeat refine zX rfl ?_
  exact aj ⟨⟨rfl,rfl,trivial⟩,rfl⟩
 subst hw;refine cond hS rfl (fun hT=>by cases hT) (fun _=>?_);refine wp_skip ?_;refine wp_seq (bg (α:=Value) (fun v'=>[(2,v')]) (fun v' w'=>w2.grownBy w' none ∧ w'.ownsRow w2.heap.size 21 1 v' l.length (n32s l)) af hS ?_ (fun v' a w3 hS h=>?_))
 ·refine b8 rfl rfl rfl ?_;refine exI [] (exI #[] (anI (anI rfl rfl) (anI (by decide) (anI (by simp [Instr.fill,madeCells]) ?_))));have hb1:=ao w2 (.cells #[] 21);have hown0:=jq w2 w2.heap.size 21 (Nat.le_refl _)
  have hc1 : ca (w2.alloc (.cells #[] 21)).cell? g o (n32s l):=by
   have : ∀ (l : List Value) (o : Nat),ca w2.cell? g o l → ca (w2.alloc (.cells #[] 21)).cell? g o l:=by
    intro l
    induction l with
    | nil=>intro o _; exact trivial
    | cons v r ih=>intro o h; exact ⟨keep hb1 h.1,ih (o + 1) h.2⟩
   exact this _ _ hc
  have ask : AppAsk (w2.alloc (.cells #[] 21)) ⟨21,.int .i32,1,4,.int .i32 0⟩ (Vs w2.heap.size 0 0) 0 [] (.slice (some ⟨g,o,none⟩) l.length c) l.length (n32s l) w2.heap.size:=
   ⟨hown0,.inr ⟨g,o,c,rfl,hc1⟩,(by show (n32s l).length = l.length * 1; simp),(by simp [Value.oneCell']),(by omega),(by show (0 + l.length) * 4 ≤ _; omega),hb1.size⟩
  repeat refine zX rfl ?_
  refine b8 rfl rfl rfl ?_;refine exI _ (exI _ (exI _ (exI _ (exI _ (anI (ask) (anI (fun _ h=>h.symm) (anI (by decide) ?_)))))));rintro v' w3 hown hgr - hat
  repeat refine zX rfl ?_
  refine aj ⟨v',⟨rfl,trivial⟩,?_,by simpa using hown⟩;refine ⟨hgr.os.trans hb1.os,hgr.tape.trans hb1.tape,hgr.output.trans hb1.output,Nat.le_trans hb1.size hgr.size,fun k hk _=>?_⟩;refine (hgr.block k (Nat.lt_of_lt_of_le hk hb1.size) (fun e=>?_)).trans (hb1.block k hk);simp only [Value.ownBlock,Option.some.injEq] at e;omega
 refine wp_ret ?_
 repeat first|refine a8 ?_|refine am ?_
 exact ret1 hS rfl rfl ⟨v',rfl,h.1,h.2⟩
end
def ia (vp : Value) (vs : List Value) (Ls : List (List Nat)) : List Ow:=⟨vp,59,1,vs.length,vs⟩ :: List.zipWith (fun v l=>oS v l) vs Ls
theorem adk {base : Nat} {w : World} {l : List Ow} (h : Rows base w l) {i g n c o k : Nat} {xs : List Nat} (hi : l[i]? = some (oS (Vs g n c) xs)) (hk : o + k ≤ xs.length) : ca w.cell? g o (n32s ((xs.drop o).take k)):=by
 refine aco _ _ fun j hj=>?_
 have hj' : j < k:=by
  have : (n32s ((xs.drop o).take k)).length = min k (xs.length - o):=by simp
  omega
 have:=h.cS hi (j:=o + j) (by omega)
 rw [Nat.zero_add] at this;rw [this];simp only [List.getElem_map,List.getElem_take,List.getElem_drop];simp [gt,List.getD_eq_getElem?_getD,show o + j < xs.length by omega]
theorem aak {vp' v : Value} {vs : List Value} {Ls : List (List Nat)} {l : List Nat} (hl : vs.length = Ls.length) : ia vp' (vs ++ [v]) (Ls ++ [l]) = ⟨vp',59,1,vs.length + 1,vs ++ [v]⟩ :: (List.zipWith (fun v l=>oS v l) vs Ls ++ [oS v l]):=by
 unfold ia;rw [List.zipWith_append hl];simp
theorem adf {vp : Value} {vs : List Value} {Ls : List (List Nat)} (hl : vs.length = Ls.length) {i : Nat} (hi : i < Ls.length) {rest : List Ow} : ∃ v,vs[i]? = some v ∧ (ia vp vs Ls ++ rest)[i + 1]? = some (oS v Ls[i]):=by
 have hi' : i < vs.length:=by omega
 refine ⟨vs[i],by simp [hi'],?_⟩;unfold ia;rw [List.cons_append,List.getElem?_cons_succ,List.getElem?_append_left (by simp; omega)];simp [List.getElem?_zipWith,hi,hi']
section
variable {base : Nat} {w0 w : World} {b : Nat} {p : Pt} {N : Nat} {rest : List Ow}
structure PS (base : Nat) (w0 w : World) (b mb : Nat) (p : Pt) (c0 q : Nat) (vp : Value) (rest : List Ow) : Prop where
 ex : ∃ (f : Nat → Option Nat) (B : List Nat) (V : PV) (vs : List Value),PartsI p.bs c0 q f B ∧ vs.length = B.length ∧ B.length = q - c0 ∧ base ≤ mb ∧ MapN w mb (q - c0) f ∧ Hold base w0 w (ptR b p V ++ (ia vp vs (B.map p.mem) ++ rest))
theorem afy {R c0 c1 : Nat} (h : du base w0 w b p rest) (hp : PI p N []) (hN : N ≤ 100000000) (hcs : p.cs.length = R + 1) (hR : 0 < R) (hRn : R ≤ 100000000) (h0 : gt p.cs (R - 1) = c0) (h1 : gt p.cs R = c1) (h01 : c0 ≤ c1) (hc1 : c1 ≤ p.bs.length)
  (hpar : ∀ x,c0 ≤ x → x < c1 → (gb p.bs x).parent < c0) :
  Calls Tryz.prog 71 #[Vp b] w fun e w'=>∃ vp V vs B,e = .returned vp ∧ aj6 p R B ∧ (∀ x ∈ B,x < c1) ∧ vs.length = B.length ∧ B.length ≤ c1 ∧ Hold base w0 w' (ptR b p V ++ (ia vp vs (B.map p.mem) ++ rest)):=by
 obtain ⟨V,h⟩:=h;refine Sym.c8 (args:=[Vp b]) Tryz.func71 rfl rfl rfl (fun a0 hS0=>?_);have hfew:=hp.few;have hst:=hp.st;refine wp_seq (ai [(0,Vp b)] (· = w) af hS0 ?_ (fun a w1 hS hw=>?_))
 ·repeat refine zX rfl ?_
  exact aj ⟨⟨rfl,trivial⟩,rfl⟩
 subst hw;refine wp_seq (ai [(0,Vp b),(3,.slice none 0 0)] (· = w1) af hS ?_ (fun a w2 hS hw=>?_))
 ·repeat refine zX rfl ?_
  exact aj ⟨⟨rfl,rfl,trivial⟩,rfl⟩
 subst hw;obtain ⟨mb,hmb⟩ : ∃ mb,mb = w2.heap.size:=⟨_,rfl⟩;refine wp_seq (ai [(0,Vp b),(3,.slice none 0 0),(4,.map (some mb))] (· = w2.alloc (.map #[] 0)) af hS ?_ (fun a w3 hS hw=>?_))
 ·subst hmb;refine zB rfl ?_
  repeat refine zX rfl ?_
  exact aj ⟨⟨rfl,rfl,rfl,trivial⟩,rfl⟩
 have hm0 : MapN w3 mb 0 (fun _=>none):=by rw [hw,hmb]; exact MapF.made _ _ _
 have hbm : base ≤ mb:=by rw [hmb]; exact h.s
 replace h : Hold base w0 w3 (ptR b p V ++ rest):=by rw [hw]; exact h.alloc _
 clear hw hmb
 replace h : Hold base w0 w3 (ptR b p V ++ (ia (.slice none 0 0) [] (([] : List Nat).map p.mem) ++ rest)):=
  (h.nil 59 1).perm (by
   show List.Perm (_ :: (ptR b p V ++ rest)) (ptR b p V ++ (_ :: rest));exact List.perm_middle.symm)
 obtain ⟨vst,vpl,vbl,vbs,vcs,vml⟩:=V;obtain ⟨gcs,ccs,rfl,-⟩:=h.r.nilOr (i:=5) rfl (by omega);refine wp_seq (wp_seq (b6 [(0,Vp b),(3,.slice none 0 0),(4,.map (some mb)),(5,Vi c0)] af dc (by kernel_rfl) hS ?_ (fun a w4 hS hw=>?_)))
 ·have c:=h.r.cN (i:=5) rfl (j:=R - 1) (by omega);rw [h0] at c
  have e1 : IntKind.i64.wrap (((p.cs.length - 1 : Nat) : Int) - 1) = ((R - 1 : Nat) : Int):=by
   rw [hcs]; exact qk R 1 (by omega) (by omega)
  repeat refine qX rfl ?_
  refine qL rfl (h.r.xcell (i:=0) rfl (j:=4) rfl) ?_
  repeat refine qX rfl ?_
  refine qF (Vi (p.cs.length - 1 : Nat)) rfl (mz) (fun w1 h1=>kd (h.below h1) (by omega) (by omega)) ?_;refine qN rfl (e1) ?_;refine qI rfl (rfl) ((by omega)) ?_;refine qL rfl (c) ?_
  repeat refine qX rfl ?_
  exact fa ⟨rfl,rfl,rfl,rfl,trivial⟩
 replace h:=h.below hw;replace hm0:=hm0.below hw;clear hw
 refine wp_block (cz hS (fun g E w'=>∃ (q : Nat) (vp : Value),c0 ≤ q ∧ q ≤ c1 ∧ g = c1 - q ∧ E = [(0,Vp b),(3,vp),(4,.map (some mb)),(5,Vi q)] ∧ PS base w0 w' b mb p c0 q vp rest) (c1 - c0)
  ⟨c0,_,Nat.le_refl _,h01,rfl,rfl,⟨_,[],_,[],PartsI.start _ _,rfl,by simp,hbm,by rw [Nat.sub_self]; exact hm0,h⟩⟩ ?_)
 clear h hS hm0;rintro g E w5 a ⟨q,vp,hq0,hq1,rfl,rfl,⟨f,B,⟨vst,vpl,vbl,vbs,vcs,vml⟩,vs,hPI,hvs,hBl,-,hm,h⟩⟩ hS;obtain ⟨gcs,ccs,rfl,-⟩:=h.r.nilOr (i:=5) rfl (by omega);refine wp_seq (wp_seq (b6 [(0,Vp b),(3,vp),(4,.map (some mb)),(5,Vi q),(29,.bool (decide (q < c1)))] af dc (by kernel_rfl) hS ?_ (fun a w6 hS hw=>?_)))
 ·have c:=h.r.cN (i:=5) rfl (j:=p.cs.length - 1) (by omega);rw [show gt p.cs (p.cs.length - 1) = c1 by rw [hcs]; exact h1] at c
  repeat refine qX rfl ?_
  refine qL rfl (h.r.xcell (i:=0) rfl (j:=4) rfl) ?_
  repeat refine qX rfl ?_
  refine qF (Vi (p.cs.length - 1 : Nat)) rfl (mz) (fun w1 h1=>kd (h.below h1) (by omega) (by omega)) ?_;refine qI rfl (rfl) ((by omega)) ?_;refine qL rfl (c) ?_;refine qC rfl (co _ _) ?_
  repeat refine qX rfl ?_
  exact fa ⟨rfl,rfl,rfl,rfl,rfl,trivial⟩
 replace h:=h.below hw;replace hm:=hm.below hw;clear hw;refine cond hS rfl (fun hT=>wp_skip ?_) (fun hF=>?_)
 rotate_left
 ·have hqc : q = c1:=by have:=of_decide_eq_false hF; omega
  subst hqc;refine wp_exit ?_
  repeat first|refine bf ?_|refine ba ?_|refine az rfl ?_
  refine wp_seq (ai [(2,vp)] (· = w6) af hS ?_ (fun a w7 hS hw=>?_))
  ·repeat refine zX rfl ?_
   exact aj ⟨⟨rfl,trivial⟩,rfl⟩
  subst hw;refine wp_ret ?_
  repeat first|refine a8 ?_|refine am ?_
  exact ret1 hS rfl rfl ⟨vp,_,vs,B,rfl,hPI.tells h0 h1,hPI.f4,hvs,by omega,h⟩
 have hqc : q < c1:=of_decide_eq_true hT;have hqb : q < p.bs.length:=by omega
 obtain ⟨P,hP⟩ : ∃ P,(gb p.bs q).parent = P:=⟨_,rfl⟩;have hPc : P < c0:=by rw [← hP]; exact hpar q hq0 hqc
 obtain ⟨gbs,cbs,rfl,-⟩:=h.r.nilOr (i:=4) rfl (by omega);refine wp_seq (wp_block (wp_seq (ai [(0,Vp b),(3,vp),(4,.map (some mb)),(5,Vi q),(6,Vi P)] (· = w6) af hS ?_ (fun a w7 hS hw=>?_))))
 ·have c:=h.r.cK3 (i:=4) rfl hqb;rw [hP] at c
  repeat refine zX rfl ?_
  refine zL rfl (h.r.xcell (i:=0) rfl (j:=3) rfl) ?_
  repeat refine zX rfl ?_
  refine zI rfl (rfl) (hqb) ?_;refine zP rfl ?_;refine zL rfl (c) ?_
  repeat refine zX rfl ?_
  exact aj ⟨⟨rfl,rfl,rfl,rfl,rfl,trivial⟩,rfl⟩
 subst hw;obtain ⟨r,hr⟩ : ∃ r,(f P).getD P = r:=⟨_,rfl⟩
 have hrq : r < q:=by
  rw [← hr]
  cases hf : f P with
  | none=>simp; omega
  | some v=>have:=hPI.f1 P v hf; simp; omega
 refine wp_seq (ai [(0,Vp b),(3,vp),(4,.map (some mb)),(5,Vi q),(6,Vi P),(7,Vi (((f P).getD 0 : Nat) : Int)),(8,.bool (f P).isSome)] (· = w7) af hS ?_ (fun a w8 hS hw=>?_))
 ·repeat refine zX rfl ?_
  refine b8 rfl rfl rfl (exI _ (anI (MapN.look hm (by omega)) ?_))
  repeat refine zX rfl ?_
  exact aj ⟨⟨rfl,rfl,rfl,rfl,rfl,rfl,rfl,trivial⟩,rfl⟩
 subst hw;refine wp_seq (cut (F:=fun a' w'=>St Tryz.f71.ntmps a' [(0,Vp b),(3,vp),(4,.map (some mb)),(5,Vi q),(6,Vi P),(7,Vi r)] ∧ w' = w8) ?_ ?_)
 ·refine wp_seq (ai [(0,Vp b),(3,vp),(4,.map (some mb)),(5,Vi q),(6,Vi P),(7,Vi (((f P).getD 0 : Nat) : Int)),(47,.bool (!(f P).isSome))] (· = w8) af hS ?_ (fun a w9 hS hw=>?_))
  ·repeat refine zX rfl ?_
   exact aj ⟨⟨rfl,rfl,rfl,rfl,rfl,rfl,rfl,trivial⟩,rfl⟩
  subst hw;refine cond hS rfl (fun hT=>?_) (fun hF=>?_)
  ·refine ai [(0,Vp b),(3,vp),(4,.map (some mb)),(5,Vi q),(6,Vi P),(7,Vi r)] (· = w9) af hS ?_ (fun a w10 hS hw=>⟨hS,hw⟩)
   have hn : f P = none:=by cases hf : f P with
    | none=>rfl
    | some v=>rw [hf] at hT; cases hT
   rw [hn] at hr;have hr : P = r:=hr;rw [← hr]
   repeat refine zX rfl ?_
   exact aj ⟨⟨rfl,rfl,rfl,rfl,rfl,rfl,trivial⟩,rfl⟩
  ·refine wp_skip ?_
   obtain ⟨v,hv⟩ : ∃ v,f P = some v:=by cases hf : f P with
    | none=>rw [hf] at hF; cases hF
    | some v=>exact ⟨v,rfl⟩
   rw [hv] at hr hS;have hr : v = r:=hr;subst hr;exact ⟨hS.sub ⟨rfl,rfl,rfl,rfl,rfl,rfl,trivial⟩,rfl⟩
 clear hS;rintro a w9 ⟨hS,rfl⟩;refine wp_seq (ai [(0,Vp b),(3,vp),(4,.map (some mb)),(5,Vi q),(6,Vi P),(7,Vi r),(9,Vi q)] (· = w9) af hS ?_ (fun a w10 hS hw=>?_))
 ·repeat refine zX rfl ?_
  exact aj ⟨⟨rfl,rfl,rfl,rfl,rfl,rfl,rfl,trivial⟩,rfl⟩
 subst hw;refine wp_seq (cut (F:=fun a' w'=>RowKit.Below w10.heap.size w10 w' ∧ ∃ rv sm : Nat,((rv = q ∧ sm = (f P).getD P) ∨ (rv = (f P).getD P ∧ sm = q)) ∧ St Tryz.f71.ntmps a' [(0,Vp b),(3,vp),(4,.map (some mb)),(5,Vi q),(6,Vi P),(7,Vi rv),(9,Vi sm)]) ?_ ?_)
 ·refine wp_seq (b6 [(0,Vp b),(3,vp),(4,.map (some mb)),(5,Vi q),(6,Vi P),(7,Vi r),(9,Vi q),(66,.bool (decide ((gb p.bs r).size < (gb p.bs q).size)))] af dc (by kernel_rfl) hS ?_ (fun a w11 hS hw=>?_))
  ·repeat refine qX rfl ?_
   refine qL rfl (h.r.xcell (i:=0) rfl (j:=3) rfl) ?_
   repeat refine qX rfl ?_
   refine qI rfl (rfl) (hqb) ?_;refine qP rfl ?_;refine qL rfl (h.r.cK1 (i:=4) rfl hqb) ?_
   repeat refine qX rfl ?_
   refine qL rfl (h.r.xcell (i:=0) rfl (j:=3) rfl) ?_
   repeat refine qX rfl ?_
   refine qI rfl (rfl) ((by omega)) ?_;refine qP rfl ?_;refine qL rfl (h.r.cK1 (i:=4) rfl (j:=r) (by omega)) ?_;refine qC rfl (co _ _) ?_
   repeat refine qX rfl ?_
   exact fa ⟨rfl,rfl,rfl,rfl,rfl,rfl,rfl,rfl,trivial⟩
  refine cond hS rfl (fun hT=>?_) (fun hF=>?_)
  ·refine ai [(0,Vp b),(3,vp),(4,.map (some mb)),(5,Vi q),(6,Vi P),(7,Vi q),(9,Vi r)] (· = w11) af hS ?_ (fun a w12 hS hw2=>?_)
   ·repeat refine zX rfl ?_
    exact aj ⟨⟨rfl,rfl,rfl,rfl,rfl,rfl,rfl,trivial⟩,rfl⟩
   subst hw2;exact ⟨hw,q,r,.inl ⟨rfl,hr.symm⟩,hS⟩
  ·exact wp_skip ⟨hw,r,q,.inr ⟨hr.symm,rfl⟩,hS.sub ⟨rfl,rfl,rfl,rfl,rfl,rfl,rfl,trivial⟩⟩
 clear hS;rintro a w11 ⟨hw,rv,sm,hc,hS⟩;replace h:=h.below hw;replace hm:=hm.below hw;clear hw;have hrv : rv ≤ q:=by rcases hc with ⟨rfl,_⟩ | ⟨rfl,_⟩ <;> omega
 have hsm : sm ≤ q:=by rcases hc with ⟨_,rfl⟩ | ⟨_,rfl⟩ <;> omega
 have hPI2:=hPI.step hq0 hP hPc hc;clear hc;obtain ⟨w12,hrun,hm2,hg2⟩:=MapN.put hm (by unfold maxLen; omega) (x:=P) (v:=rv) (by omega) (by omega);refine wp_seq (ai [(0,Vp b),(3,vp),(4,.map (some mb)),(5,Vi q),(9,Vi sm)] (· = w12) af hS ?_ (fun a w13 hS hw=>?_))
 ·repeat refine zX rfl ?_
  refine cj rfl rfl (exI _ (anI hrun ?_))
  repeat refine zX rfl ?_
  exact aj ⟨⟨rfl,rfl,rfl,rfl,rfl,trivial⟩,rfl⟩
 subst hw;replace h:=h.map hm hbm hg2;clear hm hrun hg2 hPI;have hsb : sm < p.bs.length:=by omega
 have hbd:=hp.bd sm hsb;obtain ⟨gst,cst,rfl,-⟩:=h.r.nilOr (i:=1) rfl (by omega);obtain ⟨gvp,cvp,rfl,-⟩:=h.r.any (i:=7) rfl;have hml:=lr hp hsb;refine bg (α:=Value) (fun vp'=>[(0,Vp b),(3,vp'),(4,.map (some mb)),(5,Vi q)]) (fun vp' w'=>PS base w0 w' b mb p c0 (q + 1) vp' rest) af hS ?_ (fun vp' a w14 hS h=>?_)
 ·repeat refine zX rfl ?_
  refine zL rfl (h.r.xcell (i:=0) rfl (j:=3) rfl) ?_
  repeat refine zX rfl ?_
  refine zI rfl (rfl) (hsb) ?_;refine zA ([Vi ((gb p.bs sm).first : Int),Vi ((gb p.bs sm).size : Int),Vi ((gb p.bs sm).marked : Int),Vi ((gb p.bs sm).parent : Int)]) rfl rfl (⟨h.r.cK0 (i:=4) rfl hsb,h.r.cK1 (i:=4) rfl hsb,h.r.cK2 (i:=4) rfl hsb,h.r.cK3 (i:=4) rfl hsb,trivial⟩) ?_;refine zF rfl (vk) (sh h (k:=(gb p.bs sm).size) (by omega) (by omega) (by omega)) ?_;rintro e w14 ⟨rfl,hw⟩;refine ⟨_,rfl,?_⟩;replace h:=h.below hw;replace hm2:=hm2.below hw;have hcl:=adk h.r (i:=1) rfl (o:=(gb p.bs sm).first) (k:=(gb p.bs sm).size) (by omega);have hcln:=ahh (c:=cst - (gb p.bs sm).first) (l:=p.mem sm) (by omega) (by omega) hcl;rw [hml] at hcln;refine zF rfl (ajm) (hcln) ?_;rintro e w15 ⟨v',rfl,hg,hown⟩;refine ⟨_,rfl,?_⟩;obtain ⟨g1,n1,c1',hv1⟩:=df hown;subst hv1;rw [← hml] at hown
  have h2:=h.new (o:=oS (.slice g1 n1 c1') (p.mem sm)) hg (ez hown h.s) (by
   cases hb : (Value.slice g1 n1 c1').ownBlock with
   | none=>exact .inl rfl
   | some x=>exact .inr ⟨x,rfl,(hown.lt x hb).1⟩)
  have hm3:=hm2.kept hg (by simp);refine b8 rfl rfl rfl ?_;refine exI [(0,.slice g1 n1 c1')] (exI #[.slice g1 n1 c1'] (anI (anI rfl rfl) (anI (by decide) (anI (uh _ _ _ _) ?_))));have hal:=ao w15 (.cells #[.slice g1 n1 c1'] 59);have h3:=h2.alloc (.cells #[.slice g1 n1 c1'] 59);have hm4:=hm3.below hal
  have ask : AppAsk (w15.alloc (.cells #[.slice g1 n1 c1'] 59)) ⟨59,.slice 21,1,24,.slice none 0 0⟩ (.slice gvp vs.length cvp) vs.length vs (Vs w15.heap.size 1 1) 1 [.slice g1 n1 c1'] base:=
   ⟨h3.r.1 8 _ rfl,.inr ⟨_,0,_,rfl,ax rfl,trivial⟩,rfl,(by simp [Value.oneCell']),(by omega),(by show (vs.length + 1) * 24 ≤ _; omega),h3.s⟩
  refine b8 rfl rfl rfl ?_;refine exI _ (exI _ (exI _ (exI _ (exI _ (anI (ask) (anI (fun _ h=>h.symm) (anI (by decide) ?_)))))));rintro v' w16 hown2 hgr - hat;have h4:=h3.app (i:=8) rfl hown2 hgr hat;have hm5:=hm4.row h3.r (i:=8) rfl hgr
  repeat refine zX rfl ?_
  refine aj ⟨v',⟨rfl,rfl,rfl,rfl,trivial⟩,⟨_,B ++ [sm],⟨Vs gst p.st.length cst,vpl,vbl,Vs gbs p.bs.length cbs,Vs gcs p.cs.length ccs,vml⟩,vs ++ [.slice g1 n1 c1'],hPI2,by simp [hvs],by simp [hBl]; omega,hbm,by rw [show q + 1 - c0 = q - c0 + 1 by omega]; exact hm5,?_⟩⟩;rw [List.map_append,List.map_singleton,aak (by simpa using hvs)];refine h4.perm ?_;show List.Perm (oS (.slice g1 n1 c1') (p.mem sm) :: (ptR b p _ ++ (_ :: (List.zipWith (fun v l=>oS v l) vs (B.map p.mem) ++ rest)))) (ptR b p _ ++ (_ :: (List.zipWith (fun v l=>oS v l) vs (B.map p.mem) ++ [oS (.slice g1 n1 c1') (p.mem sm)]) ++ rest));have e:=List.perm_middle (a:=oS (.slice g1 n1 c1') (p.mem sm)) (l₁:=ptR b p ⟨Vs gst p.st.length cst,vpl,vbl,Vs gbs p.bs.length cbs,Vs gcs p.cs.length ccs,vml⟩ ++ (⟨v',59,1,vs.length + 1,vs ++ [.slice g1 n1 c1']⟩ :: List.zipWith (fun v l=>oS v l) vs (B.map p.mem))) (l₂:=rest);simp only [List.append_assoc,List.cons_append,List.nil_append] at e ⊢;exact e.symm
 refine ay ?_;refine ai [(0,Vp b),(3,vp'),(4,.map (some mb)),(5,Vi (q + 1 : Nat))] (· = w14) af hS ?_ (fun a w15 hS hw=>?_)
 ·repeat refine zX rfl ?_
  refine zN rfl (bm _ 1 (by omega)) ?_
  repeat refine zX rfl ?_
  exact aj ⟨⟨rfl,rfl,rfl,rfl,trivial⟩,rfl⟩
 subst hw;exact ⟨c1 - (q + 1),_,by omega,⟨q + 1,vp',by omega,by omega,rfl,rfl,h⟩,hS⟩
end
end
section
structure Mc where
 s : Int
 n : List (List Int)
 f : List Bool
def plG (tot first : Nat) (st : Int) : Nat:=if st < 0 then tot else first + st.toNat
structure GP where
 st : List Nat
 nx : List Nat
 en : List Bool
def GP.row (g : GP) (tot first : Nat) (row : List Int) : GP:={ g with nx:=g.nx ++ row.map (plG tot first) }
def GP.rows (g : GP) (tot first : Nat) (next : List (List Int)) : GP:=next.foldl (fun g row=>g.row tot first row) g
def GP.add (g : GP) (tot : Nat) (m : Mc) : GP:=
 let h:=({ g with st:=g.st ++ [plG tot g.en.length m.s] } : GP).rows tot g.en.length m.n
 { h with en:=h.en ++ m.f }
def totG (ms : List Mc) : Nat:=(ms.map fun m=>m.n.length).sum
def layG (L : Nat) (ms : List Mc) : GP:=
 let g : GP:=ms.foldl (fun (g : GP) (m : Mc)=>g.add (totG ms) m) ⟨[],[],[]⟩
 ⟨g.st,g.nx ++ List.replicate L (totG ms),g.en ++ [false]⟩
theorem r6 (tot first : Nat) : ∀ (next : List (List Int)) (g : GP),g.rows tot first next = { g with nx:=g.nx ++ next.flatMap fun row=>row.map (plG tot first) }
 | [],g=>by simp [GP.rows]
 | r :: rs,g=>by
   show (g.row tot first r).rows tot first rs = _;rw [r6 tot first rs];simp [GP.row]
theorem jy (g : GP) (tot : Nat) (m : Mc) : g.add tot m = ⟨g.st ++ [plG tot g.en.length m.s],g.nx ++ m.n.flatMap fun row=>row.map (plG tot g.en.length),g.en ++ m.f⟩:=by
 simp only [GP.add,r6]
structure Laid (L tot : Nat) (nx : List Nat) (en : List Bool) (first : Nat) (m : Mc) : Prop where
 len : first + m.n.length ≤ en.length
 nx : ∀ i c : Nat,i < m.n.length → c < L → (first + i) * L + c < nx.length ∧ gt nx ((first + i) * L + c) = plG tot first (dd m.n i c)
 en : ∀ i : Nat,i < m.n.length → en.getD (first + i) false = m.f.getD i false
theorem xd {L : Nat} : ∀ (next : List (List Int)) (f : Int → Nat),(∀ r ∈ next,r.length = L) → (next.flatMap fun row=>row.map f).length = next.length * L ∧
  ∀ i c : Nat,(hi : i < next.length) → c < L → gt (next.flatMap fun row=>row.map f) (i * L + c) = f (next[i].getD c (-1))
 | [],f,_=>⟨by simp,fun i c hi=>by simp at hi⟩
 | r :: rs,f,h=>by
   obtain ⟨h1,h2⟩:=xd rs f (fun x hx=>h x (List.mem_cons_of_mem _ hx));have hr:=h r (List.mem_cons_self ..);refine ⟨by rw [List.flatMap_cons,List.length_append,h1,List.length_map,hr,List.length_cons,Nat.succ_mul]; omega,fun i c hi hc=>?_⟩;rw [List.flatMap_cons,su,List.length_map,hr]
   cases i with
   | zero=>
     rw [Nat.zero_mul,Nat.zero_add,if_pos hc];simp [gt,List.getD_eq_getElem?_getD,hr,hc]
   | succ i=>
     have e : (i + 1) * L + c - L = i * L + c:=by rw [Nat.succ_mul]; omega
     rw [if_neg (by rw [Nat.succ_mul]; omega),e];exact h2 i c (by simpa using hi) hc
theorem Laid.more {L tot first : Nat} {nx k : List Nat} {en e2 : List Bool} {m : Mc} (h : Laid L tot nx en first m) : Laid L tot (nx ++ k) (en ++ e2) first m:=by
 have hl:=h.len;refine ⟨by rw [List.length_append]; omega,fun i c hi hc=>?_,fun i hi=>?_⟩
 ·have:=h.nx i c hi hc
  refine ⟨by rw [List.length_append]; omega,?_⟩;rw [su,if_pos this.1]; exact this.2
 ·rw [List.getD_eq_getElem?_getD,List.getElem?_append_left (by omega),← List.getD_eq_getElem?_getD];exact h.en i hi
def Mc.ok (L : Nat) (m : Mc) : Prop:=m.f.length = m.n.length ∧ (∀ r ∈ m.n,r.length = L)
theorem rg {L tot : Nat} {g : GP} {m : Mc} (h : m.ok L) (hn : g.nx.length = g.en.length * L) : (g.add tot m).nx.length = (g.add tot m).en.length * L ∧ Laid L tot (g.add tot m).nx (g.add tot m).en g.en.length m:=by
 rw [jy];obtain ⟨h1,h2⟩:=h;obtain ⟨f1,f2⟩:=xd (L:=L) m.n (plG tot g.en.length) h2;refine ⟨?_,?_,fun i c hi hc=>?_,fun i hi=>?_⟩
 ·show (g.nx ++ _).length = (g.en ++ m.f).length * L;rw [List.length_append,List.length_append,f1,hn,h1,Nat.add_mul]
 ·show g.en.length + m.n.length ≤ (g.en ++ m.f).length;rw [List.length_append,h1]; exact Nat.le_refl _
 ·have hil : i * L + c < m.n.length * L:=Nat.lt_of_lt_of_le (show i * L + c < (i + 1) * L by rw [Nat.succ_mul]; omega) (Nat.mul_le_mul_right _ hi);have e : (g.en.length + i) * L + c = g.nx.length + (i * L + c):=by rw [Nat.add_mul,hn]; omega
  refine ⟨?_,?_⟩
  ·show _ < (g.nx ++ _).length;rw [List.length_append,f1]; omega
  ·show gt (g.nx ++ _) _ = _;rw [e,su,if_neg (by omega),Nat.add_sub_cancel_left,f2 i c hi hc];have hr:=h2 _ (List.getElem_mem hi);rw [i9 hi (by omega)];simp [List.getD_eq_getElem?_getD,hr,hc]
 ·show (g.en ++ m.f).getD (g.en.length + i) false = _;rw [List.getD_eq_getElem?_getD,List.getElem?_append_right (by omega),Nat.add_sub_cancel_left,← List.getD_eq_getElem?_getD]
structure Gr (N L : Nat) (nx : List Nat) (en : List Bool) : Prop where
 len : nx.length = N * L
 enl : en.length = N
 pos : 0 < N
 lt : ∀ s c,s < N → c < L → gt nx (s * L + c) < N
abbrev dlG (nx : List Nat) (L s c : Nat) : Nat:=gt nx (s * L + c)
abbrev enG (en : List Bool) (s : Nat) : Bool:=en.getD s false
def Mc.inn (m : Mc) : Prop:=∀ r ∈ m.n,∀ t ∈ r,t < m.n.length
theorem aag {m : Mc} (h : m.inn) {tot first : Nat} (hf : first + m.n.length ≤ tot) : ∀ x ∈ (m.n.flatMap fun row=>row.map (plG tot first)),x ≤ tot:=fun x hx=>by
 obtain ⟨r,hr,hx⟩:=List.mem_flatMap.1 hx;obtain ⟨t,ht,rfl⟩:=List.mem_map.1 hx
 have:=h r hr t ht
 unfold plG
 split <;> omega
theorem jw {L s : Int} {n : List (List Int)} {f : List Bool} (h : Shape L s n f) : (⟨s,n,f⟩ : Mc).ok L.toNat ∧ (⟨s,n,f⟩ : Mc).inn:=by
 have h0:=h.L0;refine ⟨⟨h.fin,fun r hr=>?_⟩,fun r hr t ht=>?_⟩
 ·obtain ⟨k,hk,rfl⟩:=List.mem_iff_getElem.1 hr
  have:=(h.rows k hk).1
  show n[k].length = L.toNat;omega
 ·obtain ⟨k,hk,rfl⟩:=List.mem_iff_getElem.1 hr;obtain ⟨j,hj,rfl⟩:=List.mem_iff_getElem.1 ht;exact ((h.rows k hk).2 j hj).2
theorem gr_of {L tot : Nat} {nx : List Nat} {en : List Bool} (hnx : nx.length = tot * L) (hen : en.length = tot) (hm : ∀ x ∈ nx,x ≤ tot) : Gr (tot + 1) L (nx ++ List.replicate L tot) (en ++ [false]):=by
 refine ⟨by rw [List.length_append,hnx,List.length_replicate,Nat.succ_mul],by rw [List.length_append,hen]; rfl,by omega,fun s c hs hc=>?_⟩
 have hall : ∀ x ∈ nx ++ List.replicate L tot,x ≤ tot:=fun x hx=>by
  rcases List.mem_append.1 hx with h | h
  ·exact hm x h
  ·rw [(List.mem_replicate.1 h).2]; exact Nat.le_refl _
 have hl : s * L + c < (nx ++ List.replicate L tot).length:=by
  rw [List.length_append,hnx,List.length_replicate];have : (s + 1) * L ≤ (tot + 1) * L:=Nat.mul_le_mul_right _ hs;rw [Nat.succ_mul,Nat.succ_mul] at this;omega
 have : gt (nx ++ List.replicate L tot) (s * L + c) = (nx ++ List.replicate L tot)[s * L + c]:=by
  show List.getD _ _ _ = _;rw [List.getD_eq_getElem?_getD,List.getElem?_eq_getElem hl]; rfl
 rw [this];exact Nat.lt_succ_of_le (hall _ (List.getElem_mem hl))
theorem lay_one {L : Nat} {m : Mc} (h : m.ok L) (hi : m.inn) : ∃ nx en,layG L [m] = ⟨[plG m.n.length 0 m.s],nx ++ List.replicate L m.n.length,en ++ [false]⟩ ∧ nx.length = m.n.length * L ∧ en.length = m.n.length ∧ Laid L m.n.length nx en 0 m ∧ ∀ x ∈ nx,x ≤ m.n.length:=by
 have ht : totG [m] = m.n.length:=by simp [totG]
 obtain ⟨h1,h2⟩:=rg (tot:=m.n.length) (g:=⟨[],[],[]⟩) h (by simp);refine ⟨_,_,?_,?_,?_,h2,?_⟩
 ·simp only [layG,ht,List.foldl_cons,List.foldl_nil];rw [jy];rfl
 ·rw [h1,jy];simp [h.1]
 ·rw [jy]; simp [h.1]
 ·rw [jy];exact aag hi (by simp)
theorem lay_two {L : Nat} {a b : Mc} (ha : a.ok L) (hb : b.ok L) (hai : a.inn) (hbi : b.inn) : ∃ nx en,layG L [a,b] = ⟨[plG (a.n.length + b.n.length) 0 a.s,plG (a.n.length + b.n.length) a.n.length b.s],nx ++ List.replicate L (a.n.length + b.n.length),en ++ [false]⟩ ∧ nx.length = (a.n.length + b.n.length) * L ∧
  en.length = a.n.length + b.n.length ∧ Laid L (a.n.length + b.n.length) nx en 0 a ∧ Laid L (a.n.length + b.n.length) nx en a.n.length b ∧ ∀ x ∈ nx,x ≤ a.n.length + b.n.length:=by
 have ht : totG [a,b] = a.n.length + b.n.length:=by simp [totG]
 obtain ⟨h1,h2⟩:=rg (tot:=a.n.length + b.n.length) (g:=⟨[],[],[]⟩) ha (by simp);obtain ⟨h3,h4⟩:=rg (tot:=a.n.length + b.n.length) hb h1;have e1 : ((⟨[],[],[]⟩ : GP).add (a.n.length + b.n.length) a).en.length = a.n.length:=by rw [jy]; simp [ha.1]
 have e2 : (((⟨[],[],[]⟩ : GP).add (a.n.length + b.n.length) a).add (a.n.length + b.n.length) b).en.length = a.n.length + b.n.length:=by
  rw [jy]; show (_ ++ b.f).length = _;rw [List.length_append,e1,hb.1]
 rw [e1] at h4;refine ⟨_,_,?_,?_,e2,?_,h4,?_⟩
 ·simp only [layG,ht,List.foldl_cons,List.foldl_nil];rw [jy (((⟨[],[],[]⟩ : GP).add (a.n.length + b.n.length) a)),e1];simp only [jy,List.nil_append,List.length_nil,List.cons_append]
 ·rw [h3,e2]
 ·rw [jy (((⟨[],[],[]⟩ : GP).add (a.n.length + b.n.length) a))];exact h2.more
 ·rw [jy (((⟨[],[],[]⟩ : GP).add (a.n.length + b.n.length) a)),e1,jy];intro x hx
  rcases List.mem_append.1 hx with h | h
  ·exact aag hai (first:=0) (by omega) x (by simpa using h)
  ·exact aag hbi (by omega) x h
def Goes (L : Nat) (nx : List Nat) (en : List Bool) (tot first : Nat) (m : Mc) : Prop:=∀ (w : List Nat) (st : Int),-1 ≤ st → st < m.n.length → Word L w → enG en (rnG (dlG nx L) (plG tot first st) w) = accM m.n m.f st w
theorem sq {L tot first : Nat} {nx : List Nat} {en : List Bool} {m : Mc} {s0 : Int} (hs : Shape L s0 m.n m.f) (h : Laid L tot nx en first m) (hnx : nx.length = tot * L) (hen : en.length = tot) :
  Goes L (nx ++ List.replicate L tot) (en ++ [false]) tot first m:=by
 have hlen:=h.len
 have dead : ∀ (w : List Nat),Word L w → enG (en ++ [false]) (rnG (dlG (nx ++ List.replicate L tot) L) tot w) = false:=by
  intro w
  induction w with
  | nil=>
    intro _;show (en ++ [false]).getD tot false = false;rw [List.getD_eq_getElem?_getD,List.getElem?_append_right (by omega),hen]; simp
  | cons c w ih=>
    intro hw;show enG _ (rnG _ (dlG (nx ++ List.replicate L tot) L tot c) w) = false
    have : dlG (nx ++ List.replicate L tot) L tot c = tot:=by
     show gt (nx ++ List.replicate L tot) (tot * L + c) = tot;rw [su,if_neg (by omega),hnx,Nat.add_sub_cancel_left]
     have:=hw.head
     simp [gt,List.getD_eq_getElem?_getD,this]
    rw [this];exact ih hw.tail
 intro w
 induction w with
 | nil=>
   intro st h1 h2 _;show (en ++ [false]).getD (plG tot first st) false = fo m.f st;unfold plG fo
   split
   ·rename_i hn;rw [List.getD_eq_getElem?_getD,List.getElem?_append_right (by omega),hen];have : decide (0 ≤ st) = false:=decide_eq_false (by omega);simp [this]
   ·rename_i hn;have h3 : decide (0 ≤ st) = true:=decide_eq_true (by omega);rw [h3,Bool.true_and,List.getD_eq_getElem?_getD,List.getElem?_append_left (by omega),← List.getD_eq_getElem?_getD];exact h.en _ (by omega)
 | cons c w ih=>
   intro st h1 h2 hw;have hc:=hw.head;show enG _ (rnG _ (dlG (nx ++ List.replicate L tot) L (plG tot first st) c) w) = accM m.n m.f (dd m.n st c) w
   by_cases hn : st < 0
   ·have e1 : plG tot first st = tot:=by unfold plG; rw [if_pos hn]
    have:=dead (c :: w) hw
    rw [e1,i7 _ hn,di _ _ _ (by omega)];exact this
   ·obtain ⟨i,rfl⟩:=Int.eq_ofNat_of_zero_le (Int.not_lt.1 hn);have hi : i < m.n.length:=by omega
    have hx:=h.nx i c hi hc;have e1 : plG tot first (i : Int) = first + i:=by unfold plG; rw [if_neg hn]; rfl
    have e2 : dlG (nx ++ List.replicate L tot) L (first + i) c = plG tot first (dd m.n i c):=by
     show gt (nx ++ List.replicate L tot) _ = _;rw [su,if_pos hx.1]; exact hx.2
    rw [e1,e2];have hr:=e8 hs (st:=(i : Int)) (l:=(c : Int)) h2 (by omega) (by omega);exact ih _ hr.1 hr.2 hw.tail
theorem aka {tot first : Nat} {m : Mc} {st : Int} (h : first + m.n.length ≤ tot) (hst : st < m.n.length) : plG tot first st < tot + 1:=by
 unfold plG
 split
 ·omega
 ·omega
end
section
open Go Sym
theorem ag3 : bk Tryz.prog 34 = true:=by kernel_rfl
theorem acj : bk Tryz.prog 65 = true:=by kernel_rfl
theorem m0 : bk Tryz.prog 38 = true:=by kernel_rfl
structure GV where
 st : Value
 nx : Value
 en : Value
abbrev gX (b L tot : Nat) (V : GV) : Ow:=oX 73 b 5 [Vi L,V.st,V.nx,V.en,Vi tot]
abbrev grR (b L tot : Nat) (g : GP) (V : GV) : List Ow:=[gX b L tot V,oN V.st g.st,oS V.nx g.nx,oB V.en g.en]
abbrev mX (B : Nat) (L s : Int) (vn ve : Value) : Ow:=oX 25 B 4 [Vi L,Vi s,vn,ve]
def MsIn (w : World) (B : Nat) (L : Int) (ms : List Mc) : Prop:=∀ j (h : j < ms.length),∃ vn ve,ca w.cell? B (0 + j * 4) [Vi L,Vi ms[j].s,vn,ve] ∧ Ma w L ms[j].s ms[j].n ms[j].f vn ve
theorem l5 {w w' : World} (hb : RowKit.Below w.heap.size w w') {b : Nat} : ∀ (l : List Value) (o : Nat),ca w.cell? b o l → ca w'.cell? b o l
 | [],_,_=>trivial
 | _ :: r,o,h=>⟨keep hb h.1,l5 hb r (o + 1) h.2⟩
section
variable {base : Nat} {w0 w w' : World} {l : List Ow}
theorem Hold.var (h : Hold base w0 w l) {T k : Nat} (cs us : List Value) (hc : cs.length = k) (hu : us.length = k) :
  Hold base w0 ((w.alloc (.cells cs.toArray T)).setCells w.heap.size 0 us) (oX T w.heap.size k us :: l) ∧ RowKit.Below w.heap.size w ((w.alloc (.cells cs.toArray T)).setCells w.heap.size 0 us):=by
 have hb : RowKit.Below w.heap.size w ((w.alloc (.cells cs.toArray T)).setCells w.heap.size 0 us):=a6 (ao w _) (bz _ _ _ _) (fun k hk=>by
  simp only [Option.some.injEq] at hk; omega)
 have ho:=(OwnB.new w cs T).sets (us:=us) (by omega);refine ⟨h.new (et hb) ⟨by simp [hu],.inr ⟨_,1,_,rfl,h.s,ho,Nat.le_refl _,by decide,by simp [hu],by simp [← hu]⟩⟩ (.inr ⟨_,rfl,Nat.le_refl _⟩),hb⟩
theorem Hold.erase (h : Hold base w0 w l) (i : Nat) : Hold base w0 w (l.eraseIdx i):=⟨h.r.erase i,h.b,h.s⟩
theorem Hold.join {k : List Ow} (h : Hold base w0 w l) (hk : Hold w.heap.size w w' k) : Hold base w0 w' (k ++ l):=by
 have h1:=h.below hk.b;refine ⟨⟨fun i o hi=>?_,fun i j a b hij ha hb=>?_⟩,h1.b,h1.s⟩
 ·rw [List.getElem?_append] at hi
  split at hi
  ·exact ez (hk.r.1 i o hi) h.s
  ·exact h1.r.1 _ _ hi
 ·have cross : ∀ (i j : Nat) (a b : Ow),k[i]? = some a → l[j]? = some b → nj a.v b.v:=fun i j a b ha hb=>by
   cases hx : a.v.ownBlock with
   | none=>exact .inl hx
   | some x=>
     refine .inr fun e=>?_;have h2:=(hk.r.lt ha hx).1;have h3:=((h.r.1 j b hb).lt x (by rw [← e,hx])).2;omega
  rw [List.getElem?_append] at ha hb
  split at ha <;> split at hb
  ·exact hk.r.2 i j a b hij ha hb
  ·exact cross _ _ a b ha hb
  ·exact (cross _ _ b a hb ha).symm
  ·exact h1.r.2 _ _ a b (by omega) ha hb
end
section
variable {base : Nat} {w0 w : World} {b L tot : Nat} {g : GP} {rest : List Ow}
theorem yk {V : GV} (h : Hold base w0 w (grR b L tot g V ++ rest)) {first : Nat} {st : Int} (hf : first + st.toNat ≤ 1000000000) :
  Calls Tryz.prog 65 #[Vp b,Vi first,Vi st] w fun e w'=>e = .returned (Vi (plG tot first st : Int)) ∧ RowKit.Below w.heap.size w w':=by
 refine Sym.c8 (args:=[Vp b,Vi first,Vi st]) Tryz.func65 rfl rfl rfl (fun a0 hS0=>?_);refine wp_seq (ai [(0,Vp b),(1,Vi first),(2,Vi st)] (· = w) af hS0 ?_ (fun a w1 hS hw=>?_))
 ·repeat refine zX rfl ?_
  exact aj ⟨⟨rfl,rfl,rfl,trivial⟩,rfl⟩
 subst hw;refine wp_seq (wp_seq (ai [(0,Vp b),(1,Vi first),(2,Vi st),(8,.bool (decide (st < 0)))] (· = w1) af hS ?_ (fun a w2 hS hw=>?_)))
 ·repeat refine zX rfl ?_
  refine zC rfl (rfl) ?_
  repeat refine zX rfl ?_
  exact aj ⟨⟨rfl,rfl,rfl,rfl,trivial⟩,rfl⟩
 subst hw;refine cond hS rfl (fun hT=>?_) (fun hF=>?_)
 ·refine wp_seq (ai [(6,Vi tot)] (· = w2) af hS ?_ (fun a w3 hS hw=>?_))
  ·repeat refine zX rfl ?_
   refine zL rfl (h.r.xcell (i:=0) rfl (j:=4) rfl) ?_
   repeat refine zX rfl ?_
   exact aj ⟨⟨rfl,trivial⟩,rfl⟩
  subst hw;refine wp_ret ?_
  repeat first|refine a8 ?_|refine am ?_
  exact ret1 hS rfl rfl ⟨by rw [plG,if_pos (of_decide_eq_true hT)],RowKit.Below.refl _ _⟩
 ·refine wp_skip ?_;have hn:=of_decide_eq_false hF;obtain ⟨i,rfl⟩:=Int.eq_ofNat_of_zero_le (Int.not_lt.1 hn);have hi : ((i : Int)).toNat = i:=rfl;rw [hi] at hf;refine wp_seq (ai [(6,Vi (first + i : Nat))] (· = w2) af hS ?_ (fun a w3 hS hw=>?_))
  ·repeat refine zX rfl ?_
   refine zN rfl (bm _ _ (by omega)) ?_
   repeat refine zX rfl ?_
   exact aj ⟨⟨rfl,trivial⟩,rfl⟩
  subst hw;refine wp_ret ?_
  repeat first|refine a8 ?_|refine am ?_
  exact ret1 hS rfl rfl ⟨by rw [plG,if_neg hn,hi],RowKit.Below.refl _ _⟩
theorem ky {V : GV} (h : Hold base w0 w (grR b L tot g V ++ rest)) {s c : Nat} (hs : s * L + c < g.nx.length) (hn : g.nx.length ≤ 1000000000) (hv : dlG g.nx L s c ≤ 1000000000) :
  Calls Tryz.prog 38 #[Vp b,Vi s,Vi c] w fun e w'=>e = .returned (Vi (dlG g.nx L s c : Int)) ∧ RowKit.Below w.heap.size w w':=by
 obtain ⟨vst,vnx,ven⟩:=V;refine Sym.c8 (args:=[Vp b,Vi s,Vi c]) Tryz.func38 rfl rfl rfl (fun a0 hS0=>?_);obtain ⟨gn,cn,rfl,-⟩:=h.r.nilOr (i:=2) rfl (by omega);refine wp_seq (ai [(0,Vp b),(1,Vi s),(2,Vi c)] (· = w) af hS0 ?_ (fun a w1 hS hw=>?_))
 ·repeat refine zX rfl ?_
  exact aj ⟨⟨rfl,rfl,rfl,trivial⟩,rfl⟩
 subst hw;refine wp_seq (b6 [(6,Vi (dlG g.nx L s c : Int))] af dc (by kernel_rfl) hS ?_ (fun a w2 hS hw=>?_))
 ·repeat refine qX rfl ?_
  refine qL rfl (h.r.xcell (i:=0) rfl (j:=2) rfl) ?_
  repeat refine qX rfl ?_
  refine qL rfl (h.r.xcell (i:=0) rfl (j:=0) rfl) ?_;refine qN rfl (lz _ _ (by omega)) ?_
  repeat refine qX rfl ?_
  refine qN rfl (bm _ _ (by omega)) ?_;refine qI rfl (rfl) (hs) ?_;refine qL rfl (h.r.cS (i:=2) rfl hs) ?_;refine qN rfl (lg (dlG g.nx L s c) (by omega)) ?_
  repeat refine qX rfl ?_
  exact fa ⟨rfl,trivial⟩
 refine wp_ret ?_
 repeat first|refine a8 ?_|refine am ?_
 exact ret1 hS rfl rfl ⟨rfl,hw⟩
end
section
variable {base : Nat} {w0 w : World} {b L tot M first : Nat} {g : GP} {rest : List Ow} {Ls s : Int} {vn ve : Value} {more : Env}
theorem lay_r12 {V : GV} (h : Hold base w0 w (mX M Ls s vn ve :: (grR b L tot g V ++ rest))) (hf : first + s.toNat ≤ 1000000000) (hl : g.st.length ≤ 1000000000) {vms : Value} {n k : Nat} {Q : Exit → Act → World → Prop} {a : Act} {ops : Array Oper} {id : Nat} (hops : Sym.da Tryz.f34.body 12 = some (id,ops))
  (hS : St Tryz.f34.ntmps a [(0,Vi L),(46,vms),(47,Vi n),(48,Vi k),(5,Vp b),(9,Vp M),(10,Vi first)])
  (hq : ∀ V' a' w',St Tryz.f34.ntmps a' [(0,Vi L),(46,vms),(47,Vi n),(48,Vi k),(5,Vp b),(9,Vp M),(10,Vi first)] → Hold base w0 w' (mX M Ls s vn ve :: (grR b L tot { g with st:=g.st ++ [plG tot first s] } V' ++ rest)) → Q .normal a' w') : (Code.region id ops true).wp Tryz.prog Q a w:=by
 cases hops
 obtain ⟨vst,vnx,ven⟩:=V;refine ep (α:=GV) 11 (fun _=>[(0,Vi L),(46,vms),(47,Vi n),(48,Vi k),(5,Vp b),(9,Vp M),(10,Vi first)]) (fun V' w'=>Hold base w0 w' (mX M Ls s vn ve :: (grR b L tot { g with st:=g.st ++ [plG tot first s] } V' ++ rest))) dc hS ?_ hq
 obtain ⟨gs,cs,rfl,hc⟩:=h.r.any (i:=2) rfl;have hy : RowKit.Below w.drew.heap.size w.drew w.drew:=RowKit.Below.refl _ _;have hD:=h.drew;refine yG 0 af rfl (by kernel_rfl) (.inr hy) rfl rfl ?_;refine yT 1 af rfl (by kernel_rfl) hy rfl (rfl) ?_;refine yT 2 af rfl (by kernel_rfl) hy rfl (rfl) ?_;refine yT 3 af rfl (by kernel_rfl) hy rfl (rfl) ?_;refine yL 4 af rfl (by kernel_rfl) hy rfl rfl (hD.r.xcell (i:=1) rfl (j:=1) rfl) ?_;refine yT 5 af rfl (by kernel_rfl) hy rfl (rfl) ?_;refine yT 6 af rfl (by kernel_rfl) hy rfl (rfl) ?_;refine yT 7 af rfl (by kernel_rfl) hy rfl (rfl) ?_;refine yL 8 af rfl (by kernel_rfl) hy rfl rfl (hD.r.xcell (i:=0) rfl (j:=1) rfl) ?_;refine bo 9 (by kernel_rfl) (y_op 9 af rfl rfl rfl rfl ?_);refine anI acj ((yk hD.tail hf).mono ?_);rintro e w1 ⟨rfl,hw1⟩;refine ⟨_,rfl,?_⟩;have hy1:=ak hy hw1;refine anI (.inr hy1) ?_;have h1:=hD.below hw1;refine bo 10 (by kernel_rfl) (y_op 10 af rfl rfl rfl rfl ?_);refine exI [(0,Vi ((plG tot first s : Int)))] (exI #[Vi ((plG tot first s : Int))] (anI (anI rfl rfl) (anI (by decide) (anI (jv _ _ _) ?_))));have hy2:=hy1.alloc hy1.size (.cells #[Vi (plG tot first s : Int)] 3);refine anI (.inr hy2) ?_;have h2:=h1.alloc (.cells #[Vi (plG tot first s : Int)] 3)
 have ask : AppAsk (w1.alloc (.cells #[Vi (plG tot first s : Int)] 3)) ⟨3,.int .i64,1,8,Vi 0⟩ (.slice gs g.st.length cs) g.st.length (nats g.st) (Vs w1.heap.size 1 1) 1 [Vi (plG tot first s : Int)] base:=
  ⟨h2.r.1 2 _ rfl,.inr ⟨_,0,_,rfl,ax rfl,trivial⟩,rfl,(by simp [Value.oneCell']),(by omega),(by show (g.st.length + 1) * 8 ≤ _; omega),h2.s⟩
 refine bo 11 (by kernel_rfl) (y_op 11 af rfl rfl rfl rfl ?_);refine exI _ (exI _ (exI _ (exI _ (exI _ (anI (ask) (anI (fun _ h=>h.symm) (anI (by decide) ?_)))))));rintro v' w3 hown hgr - hat;refine anI (.inl (by kernel_rfl)) ?_;have h3:=h2.appN (i:=2) rfl hown hgr hat;obtain ⟨g2,n2,c2,hv⟩:=df hown;subst hv;refine yG 12 af rfl (by kernel_rfl) (.inl (by kernel_rfl)) rfl rfl ?_;refine yG 13 af rfl (by kernel_rfl) (.inl (by kernel_rfl)) rfl rfl ?_;refine bo 14 (by kernel_rfl) (ew 14 af rfl rfl rfl ?_);refine anI rfl (anI rfl (anI ⟨_,h3.r.xcell (i:=1) rfl (j:=1) rfl⟩ (anI (h3.r.free (i:=1) rfl 1) (anI (.inl (by kernel_rfl)) ?_))));exact fc ⟨.slice g2 n2 c2,vnx,ven⟩ (by kernel_rfl) ⟨rfl,rfl,rfl,rfl,rfl,rfl,rfl,trivial⟩ (h3.xstore (i:=1) rfl 1 (.slice g2 n2 c2))
theorem lay_r19 {V : GV} {x : Int} (h : Hold base w0 w (mX M Ls s vn ve :: (grR b L tot g V ++ rest))) (hf : first + x.toNat ≤ 1000000000) (ht : plG tot first x ≤ 1000000000) (hl : g.nx.length ≤ 1000000000) {vms vr vc : Value} {n k nr i nc j : Nat} {Q : Exit → Act → World → Prop} {a : Act} {ops : Array Oper} {id : Nat} (hops : Sym.da Tryz.f34.body 19 = some (id,ops))
  (hS : St Tryz.f34.ntmps a [(0,Vi L),(46,vms),(47,Vi n),(48,Vi k),(5,Vp b),(9,Vp M),(10,Vi first),(72,vr),(73,Vi nr),(74,Vi i),(78,vc),(79,Vi nc),(80,Vi j),(14,Vi x)])
  (hq : ∀ V' a' w',St Tryz.f34.ntmps a' [(0,Vi L),(46,vms),(47,Vi n),(48,Vi k),(5,Vp b),(9,Vp M),(10,Vi first),(72,vr),(73,Vi nr),(74,Vi i),(78,vc),(79,Vi nc),(80,Vi j)] → Hold base w0 w' (mX M Ls s vn ve :: (grR b L tot { g with nx:=g.nx ++ [plG tot first x] } V' ++ rest)) → Q .normal a' w') : (Code.region id ops true).wp Tryz.prog Q a w:=by
 cases hops
 obtain ⟨vst,vnx,ven⟩:=V;refine ep (α:=GV) 11 (fun _=>[(0,Vi L),(46,vms),(47,Vi n),(48,Vi k),(5,Vp b),(9,Vp M),(10,Vi first),(72,vr),(73,Vi nr),(74,Vi i),(78,vc),(79,Vi nc),(80,Vi j)]) (fun V' w'=>Hold base w0 w' (mX M Ls s vn ve :: (grR b L tot { g with nx:=g.nx ++ [plG tot first x] } V' ++ rest))) dc hS ?_ hq
 obtain ⟨gs,cs,rfl,hc⟩:=h.r.any (i:=3) rfl;have hy : RowKit.Below w.drew.heap.size w.drew w.drew:=RowKit.Below.refl _ _;have hD:=h.drew;refine yG 0 af rfl (by kernel_rfl) (.inr hy) rfl rfl ?_;refine yT 1 af rfl (by kernel_rfl) hy rfl (rfl) ?_;refine yT 2 af rfl (by kernel_rfl) hy rfl (rfl) ?_;refine yT 3 af rfl (by kernel_rfl) hy rfl (rfl) ?_;refine yL 4 af rfl (by kernel_rfl) hy rfl rfl (hD.r.xcell (i:=1) rfl (j:=2) rfl) ?_;refine yT 5 af rfl (by kernel_rfl) hy rfl (rfl) ?_;refine yT 6 af rfl (by kernel_rfl) hy rfl (rfl) ?_;refine yT 7 af rfl (by kernel_rfl) hy rfl (rfl) ?_;refine bo 8 (by kernel_rfl) (y_op 8 af rfl rfl rfl rfl ?_);refine anI acj ((yk hD.tail hf).mono ?_);rintro e w1 ⟨rfl,hw1⟩;refine ⟨_,rfl,?_⟩;have hy1:=ak hy hw1;refine anI (.inr hy1) ?_;have h1:=hD.below hw1;refine yT 9 af rfl (by kernel_rfl) hy1 rfl (exI _ (anI (pk _ ht) rfl)) ?_;refine bo 10 (by kernel_rfl) (y_op 10 af rfl rfl rfl rfl ?_);refine exI [(0,.int .i32 (plG tot first x : Int))] (exI #[.int .i32 (plG tot first x : Int)] (anI (anI rfl rfl) (anI (by decide) (anI (jv _ _ _) ?_))));have hy2:=hy1.alloc hy1.size (.cells #[.int .i32 (plG tot first x : Int)] 21);refine anI (.inr hy2) ?_;have h2:=h1.alloc (.cells #[.int .i32 (plG tot first x : Int)] 21)
 have ask : AppAsk (w1.alloc (.cells #[.int .i32 (plG tot first x : Int)] 21)) ⟨21,.int .i32,1,4,.int .i32 0⟩ (.slice gs g.nx.length cs) g.nx.length (n32s g.nx) (Vs w1.heap.size 1 1) 1 [.int .i32 (plG tot first x : Int)] base:=
  ⟨h2.r.1 3 _ rfl,.inr ⟨_,0,_,rfl,ax rfl,trivial⟩,rfl,(by simp [Value.oneCell']),(by omega),(by show (g.nx.length + 1) * 4 ≤ _; omega),h2.s⟩
 refine bo 11 (by kernel_rfl) (y_op 11 af rfl rfl rfl rfl ?_);refine exI _ (exI _ (exI _ (exI _ (exI _ (anI (ask) (anI (fun _ h=>h.symm) (anI (by decide) ?_)))))));rintro v' w3 hown hgr - hat;refine anI (.inl (by kernel_rfl)) ?_;have h3:=h2.appS (i:=3) rfl hown hgr hat;obtain ⟨g2,n2,c2,hv⟩:=df hown;subst hv;refine yG 12 af rfl (by kernel_rfl) (.inl (by kernel_rfl)) rfl rfl ?_;refine yG 13 af rfl (by kernel_rfl) (.inl (by kernel_rfl)) rfl rfl ?_;refine bo 14 (by kernel_rfl) (ew 14 af rfl rfl rfl ?_);refine anI rfl (anI rfl (anI ⟨_,h3.r.xcell (i:=1) rfl (j:=2) rfl⟩ (anI (h3.r.free (i:=1) rfl 2) (anI (.inl (by kernel_rfl)) ?_))));exact fc ⟨vst,.slice g2 n2 c2,ven⟩ (by kernel_rfl) ⟨rfl,rfl,rfl,rfl,rfl,rfl,rfl,rfl,rfl,rfl,rfl,rfl,rfl,trivial⟩ (h3.xstore (i:=1) rfl 2 (.slice g2 n2 c2))
theorem lay_r22 {V : GV} {fin : List Bool} (h : Hold base w0 w (mX M Ls s vn ve :: (grR b L tot g V ++ rest))) (he : Sl w ve fin je) (oke : Ok ve) (hl : g.en.length + fin.length ≤ 1000000000) {vms : Value} {n k : Nat} {Q : Exit → Act → World → Prop} {a : Act} {ops : Array Oper} {id : Nat} (hops : Sym.da Tryz.f34.body 22 = some (id,ops))
  (hS : St Tryz.f34.ntmps a [(0,Vi L),(46,vms),(47,Vi n),(48,Vi k),(5,Vp b),(9,Vp M)])
  (hq : ∀ V' a' w',St Tryz.f34.ntmps a' [(0,Vi L),(46,vms),(47,Vi n),(48,Vi k),(5,Vp b)] → Hold base w0 w' (mX M Ls s vn ve :: (grR b L tot { g with en:=g.en ++ fin } V' ++ rest)) → Q .normal a' w') : (Code.region id ops true).wp Tryz.prog Q a w:=by
 cases hops
 obtain ⟨vst,vnx,ven⟩:=V;refine ep (α:=GV) 7 (fun _=>[(0,Vi L),(46,vms),(47,Vi n),(48,Vi k),(5,Vp b)]) (fun V' w'=>Hold base w0 w' (mX M Ls s vn ve :: (grR b L tot { g with en:=g.en ++ fin } V' ++ rest))) dc hS ?_ hq
 obtain ⟨gs,cs,rfl,hc⟩:=h.r.any (i:=4) rfl;have hy : RowKit.Below w.drew.heap.size w.drew w.drew:=RowKit.Below.refl _ _;have hD:=h.drew;have heD : Sl w.drew ve fin je:=he
 obtain ⟨gv,nv,cv,hve⟩ : ∃ g n c,ve = .slice g n c:=by
  obtain ⟨a,b,o,c,e,_⟩:=he;exact ⟨_,_,_,e⟩
 have hsrc:=uo (f:=Value.bool) heD oke (fun x y h=>h);refine yG 0 af rfl (by kernel_rfl) (.inr hy) rfl rfl ?_;refine yT 1 af rfl (by kernel_rfl) hy rfl (rfl) ?_;refine yT 2 af rfl (by kernel_rfl) hy rfl (rfl) ?_;refine yT 3 af rfl (by kernel_rfl) hy rfl (rfl) ?_;refine yL 4 af rfl (by kernel_rfl) hy rfl rfl (hD.r.xcell (i:=1) rfl (j:=3) rfl) ?_;refine yT 5 af rfl (by kernel_rfl) hy rfl (rfl) ?_;refine yL 6 af rfl (by kernel_rfl) hy rfl rfl (hD.r.xcell (i:=0) rfl (j:=3) rfl) ?_;subst hve
 have ask : AppAsk w.drew ⟨4,.bool,1,1,.bool false⟩ (.slice gs g.en.length cs) g.en.length (ip g.en) (.slice gv nv cv) fin.length (ip fin) base:=
  ⟨hD.r.1 4 _ rfl,(by
   rcases hsrc with ⟨h1,h2,h3⟩ | ⟨b,o,c,h1,h2⟩
   ·exact .inl ⟨h1,h2,h3⟩
   ·exact .inr ⟨b,o,c,h1,h2⟩),(by show (ip fin).length = fin.length * 1; simp),(by intro u hu; obtain ⟨x,_,rfl⟩:=List.mem_map.1 hu; rfl),(by omega),(by show (g.en.length + fin.length) * 1 ≤ _; omega),hD.s⟩
 refine bo 7 (by kernel_rfl) (y_op 7 af rfl rfl rfl rfl ?_);refine exI _ (exI _ (exI _ (exI _ (exI _ (anI (ask) (anI (fun _ h=>h.symm) (anI (by decide) ?_)))))));rintro v' w3 hown hgr - hat;refine anI (.inl (by kernel_rfl)) ?_;have h3:=hD.appB (i:=4) rfl hown hgr hat;obtain ⟨g2,n2,c2,hv⟩:=df hown;subst hv;refine yG 8 af rfl (by kernel_rfl) (.inl (by kernel_rfl)) rfl rfl ?_;refine yG 9 af rfl (by kernel_rfl) (.inl (by kernel_rfl)) rfl rfl ?_;refine bo 10 (by kernel_rfl) (ew 10 af rfl rfl rfl ?_);refine anI rfl (anI rfl (anI ⟨_,h3.r.xcell (i:=1) rfl (j:=3) rfl⟩ (anI (h3.r.free (i:=1) rfl 3) (anI (.inl (by kernel_rfl)) ?_))));exact fc ⟨vst,vnx,.slice g2 n2 c2⟩ (by kernel_rfl) ⟨rfl,rfl,rfl,rfl,rfl,trivial⟩ (h3.xstore (i:=1) rfl 3 (.slice g2 n2 c2))
theorem lay_r26 {V : GV} (h : Hold base w0 w (grR b L tot g V ++ rest)) (ht : tot ≤ 1000000000) (hl : g.nx.length ≤ 1000000000) {i : Nat} {Q : Exit → Act → World → Prop} {a : Act} {ops : Array Oper} {id : Nat} (hops : Sym.da Tryz.f34.body 26 = some (id,ops))
  (hS : St Tryz.f34.ntmps a [(5,Vp b),(111,Vi L),(112,Vi i)])
  (hq : ∀ V' a' w',St Tryz.f34.ntmps a' [(5,Vp b),(111,Vi L),(112,Vi i)] → Hold base w0 w' (grR b L tot { g with nx:=g.nx ++ [tot] } V' ++ rest) → Q .normal a' w') : (Code.region id ops true).wp Tryz.prog Q a w:=by
 cases hops
 obtain ⟨vst,vnx,ven⟩:=V;refine ep (α:=GV) 11 (fun _=>[(5,Vp b),(111,Vi L),(112,Vi i)]) (fun V' w'=>Hold base w0 w' (grR b L tot { g with nx:=g.nx ++ [tot] } V' ++ rest)) dc hS ?_ hq
 obtain ⟨gs,cs,rfl,hc⟩:=h.r.any (i:=2) rfl;have hy : RowKit.Below w.drew.heap.size w.drew w.drew:=RowKit.Below.refl _ _;have hD:=h.drew;refine yG 0 af rfl (by kernel_rfl) (.inr hy) rfl rfl ?_;refine yT 1 af rfl (by kernel_rfl) hy rfl (rfl) ?_;refine yT 2 af rfl (by kernel_rfl) hy rfl (rfl) ?_;refine yT 3 af rfl (by kernel_rfl) hy rfl (rfl) ?_;refine yL 4 af rfl (by kernel_rfl) hy rfl rfl (hD.r.xcell (i:=0) rfl (j:=2) rfl) ?_;refine yT 5 af rfl (by kernel_rfl) hy rfl (rfl) ?_;refine yT 6 af rfl (by kernel_rfl) hy rfl (rfl) ?_;refine yT 7 af rfl (by kernel_rfl) hy rfl (rfl) ?_;refine yL 8 af rfl (by kernel_rfl) hy rfl rfl (hD.r.xcell (i:=0) rfl (j:=4) rfl) ?_;refine yT 9 af rfl (by kernel_rfl) hy rfl (exI _ (anI (pk _ ht) rfl)) ?_;refine bo 10 (by kernel_rfl) (y_op 10 af rfl rfl rfl rfl ?_);refine exI [(0,.int .i32 (tot : Int))] (exI #[.int .i32 (tot : Int)] (anI (anI rfl rfl) (anI (by decide) (anI (jv _ _ _) ?_))));have hy2:=hy.alloc hy.size (.cells #[.int .i32 (tot : Int)] 21);refine anI (.inr hy2) ?_;have h2:=hD.alloc (.cells #[.int .i32 (tot : Int)] 21)
 have ask : AppAsk (w.drew.alloc (.cells #[.int .i32 (tot : Int)] 21)) ⟨21,.int .i32,1,4,.int .i32 0⟩ (.slice gs g.nx.length cs) g.nx.length (n32s g.nx) (Vs w.drew.heap.size 1 1) 1 [.int .i32 (tot : Int)] base:=
  ⟨h2.r.1 2 _ rfl,.inr ⟨_,0,_,rfl,ax rfl,trivial⟩,rfl,(by simp [Value.oneCell']),(by omega),(by show (g.nx.length + 1) * 4 ≤ _; omega),h2.s⟩
 refine bo 11 (by kernel_rfl) (y_op 11 af rfl rfl rfl rfl ?_);refine exI _ (exI _ (exI _ (exI _ (exI _ (anI (ask) (anI (fun _ h=>h.symm) (anI (by decide) ?_)))))));rintro v' w3 hown hgr - hat;refine anI (.inl (by kernel_rfl)) ?_;have h3:=h2.appS (i:=2) rfl hown hgr hat;obtain ⟨g2,n2,c2,hv⟩:=df hown;subst hv;refine yG 12 af rfl (by kernel_rfl) (.inl (by kernel_rfl)) rfl rfl ?_;refine yG 13 af rfl (by kernel_rfl) (.inl (by kernel_rfl)) rfl rfl ?_;refine bo 14 (by kernel_rfl) (ew 14 af rfl rfl rfl ?_);refine anI rfl (anI rfl (anI ⟨_,h3.r.xcell (i:=0) rfl (j:=2) rfl⟩ (anI (h3.r.free (i:=0) rfl 2) (anI (.inl (by kernel_rfl)) ?_))));exact fc ⟨vst,.slice g2 n2 c2,ven⟩ (by kernel_rfl) ⟨rfl,rfl,rfl,trivial⟩ (h3.xstore (i:=0) rfl 2 (.slice g2 n2 c2))
theorem lay_r5 {V : GV} (h : Hold base w0 w (mX M Ls s vn ve :: (grR b L tot g V ++ rest))) {next : List (List Int)} (hn : Sl w vn next PRow) (ht : tot + next.length ≤ 1000000000) {vms : Value} {n k : Nat} {Q : Exit → Act → World → Prop} {a : Act} {ops : Array Oper} {id : Nat} (hops : Sym.da Tryz.f34.body 5 = some (id,ops))
  (hS : St Tryz.f34.ntmps a [(0,Vi L),(1,vms),(18,vms),(19,Vi n),(20,Vi k),(5,Vp b),(7,Vp M)])
  (hq : ∀ a' w',St Tryz.f34.ntmps a' [(0,Vi L),(1,vms),(18,vms),(19,Vi n),(20,Vi k),(5,Vp b)] → Hold base w0 w' (mX M Ls s vn ve :: (grR b L (tot + next.length) g V ++ rest)) → Q .normal a' w') : (Code.region id ops true).wp Tryz.prog Q a w:=by
 cases hops
 obtain ⟨vst,vnx,ven⟩:=V;refine d5 10 [(0,Vi L),(1,vms),(18,vms),(19,Vi n),(20,Vi k),(5,Vp b)] (fun w'=>Hold base w0 w' (mX M Ls s vn ve :: (grR b L (tot + next.length) g ⟨vst,vnx,ven⟩ ++ rest))) dc hS ?_ hq;have hy : RowKit.Below w.drew.heap.size w.drew w.drew:=RowKit.Below.refl _ _;have hD:=h.drew;obtain ⟨an,bn,on,cn,rfl,-⟩:=hn;refine yT 0 af rfl (by kernel_rfl) hy rfl (rfl) ?_;refine yT 1 af rfl (by kernel_rfl) hy rfl (rfl) ?_;refine yT 2 af rfl (by kernel_rfl) hy rfl (rfl) ?_;refine yL 3 af rfl (by kernel_rfl) hy rfl rfl (hD.r.xcell (i:=1) rfl (j:=4) rfl) ?_;refine yT 4 af rfl (by kernel_rfl) hy rfl (rfl) ?_;refine yL 5 af rfl (by kernel_rfl) hy rfl rfl (hD.r.xcell (i:=0) rfl (j:=2) rfl) ?_;refine yT 6 af rfl (by kernel_rfl) hy rfl (rfl) ?_;refine yT 7 af rfl (by kernel_rfl) hy rfl (exI _ (anI (bm _ _ (by omega)) rfl)) ?_;refine yT 8 af rfl (by kernel_rfl) hy rfl (rfl) ?_;refine yT 9 af rfl (by kernel_rfl) hy rfl (rfl) ?_;refine bo 10 (by kernel_rfl) (ew 10 af rfl rfl rfl ?_);refine anI rfl (anI rfl (anI ⟨_,hD.r.xcell (i:=1) rfl (j:=4) rfl⟩ (anI (hD.r.free (i:=1) rfl 4) (anI (.inl (by kernel_rfl)) ?_))));exact iq (by kernel_rfl) ⟨rfl,rfl,rfl,rfl,rfl,rfl,trivial⟩ (hD.xstore (i:=1) rfl 4 (Vi (tot + next.length : Nat)))
end
theorem fillB' (a : Bool) (z : Value) : Instr.fill (fun i=>some (i * 1,1)) (madeCells #[z] 1) [(0,.bool a)] = some #[.bool a]:=by
 have h : ∀ b,(Value.bool b).cells = #[.bool b]:=fun _=>rfl;simp [Instr.fill,madeCells,h,Array.range,Array.foldl];rfl
theorem pu (ms : List Mc) (k : Nat) (hk : k < ms.length) : totG (ms.take (k + 1)) = totG (ms.take k) + ms[k].n.length ∧ totG (ms.take (k + 1)) ≤ totG ms:=by
 have e1 : totG (ms.take (k + 1)) = totG (ms.take k) + ms[k].n.length:=by
  unfold totG;rw [List.take_succ_eq_append_getElem hk,List.map_append,List.sum_append]; simp
 refine ⟨e1,?_⟩
 have e2 : totG ms = totG (ms.take (k + 1)) + totG (ms.drop (k + 1)):=by
  conv=>lhs; rw [← List.take_append_drop (k + 1) ms]
  simp only [totG,List.map_append,List.sum_append]
 omega
def layK (tot : Nat) (ms : List Mc) (k : Nat) : GP:=(ms.take k).foldl (fun (g : GP) (m : Mc)=>g.add tot m) ⟨[],[],[]⟩
theorem yo {tot k : Nat} {ms : List Mc} (hk : k < ms.length) : layK tot ms (k + 1) = (layK tot ms k).add tot ms[k]:=by
 unfold layK;rw [List.take_succ_eq_append_getElem hk,List.foldl_append]; rfl
theorem xa {L tot : Nat} {ms : List Mc} (h : ∀ m ∈ ms,m.ok L) : ∀ k,k ≤ ms.length → (layK tot ms k).nx.length = (layK tot ms k).en.length * L ∧ (layK tot ms k).en.length = totG (ms.take k) ∧ (layK tot ms k).st.length = k
 | 0,_=>⟨by simp [layK],by simp [layK,totG],by simp [layK]⟩
 | k + 1,hk=>by
   obtain ⟨h1,h2,h3⟩:=xa h k (by omega);have hm:=h _ (List.getElem_mem (show k < ms.length by omega));rw [yo (by omega)];refine ⟨(rg hm h1).1,?_,?_⟩
   ·rw [jy,(pu ms k (by omega)).1,← h2];simp [hm.1]
   ·rw [jy]; simp [h3]
theorem akb {tot first : Nat} {n : Nat} {st : Int} (h : first + n ≤ tot) (hst : st < n) : plG tot first st ≤ tot ∧ first + st.toNat ≤ tot:=by
 unfold plG
 constructor
 ·split <;> omega
 ·omega
section
variable {w : World} {L Bm cm : Nat} {ms : List Mc}
theorem aaq (hm : MsIn w Bm (L : Int) ms) (hk0 : 0 < ms.length) (hk1 : ms.length ≤ 1000) (hL : L ≤ 300) (hok : ∀ m ∈ ms,m.ok L ∧ m.inn ∧ m.s < m.n.length) (htot : totG ms ≤ 10000) :
  Calls Tryz.prog 34 #[Vi L,Vs Bm ms.length cm] w fun e w'=>∃ b V,e = .returned (Vp b) ∧ Hold w.heap.size w w' (grR b L (totG ms) (layG L ms) V):=by
 refine Sym.c8 (args:=[Vi L,Vs Bm ms.length cm]) Tryz.func34 rfl rfl rfl (fun a0 hS0=>?_);obtain ⟨base,hbase⟩ : ∃ base,base = w.heap.size:=⟨_,rfl⟩;obtain ⟨w0,hw0⟩ : ∃ w0,w0 = w:=⟨_,rfl⟩;have h:=Hold.start w;rw [← hw0] at hm h ⊢;rw [← hw0] at hbase;rw [← hbase] at h ⊢;obtain ⟨vms,hvms⟩ : ∃ v,v = Vs Bm ms.length cm:=⟨_,rfl⟩;have hS0' : St Tryz.f34.ntmps a0 [(0,Vi L),(1,vms)]:=by rw [hvms]; exact hS0
 clear hS0;have hmK : ∀ w',RowKit.Below base w0 w' → RowKit.Below w0.heap.size w0 w':=fun w' hb=>by rw [← hbase]; exact hb
 refine wp_seq (ai [(0,Vi L),(1,vms)] (· = w0) af hS0' ?_ (fun a w1 hS hw=>?_))
 ·repeat refine zX rfl ?_
  exact aj ⟨⟨rfl,rfl,trivial⟩,rfl⟩
 subst hw;refine wp_seq (bg (α:=Nat × GV) (fun x=>[(0,Vi L),(1,vms),(5,Vp x.1)]) (fun x w'=>Hold base w1 w' (grR x.1 L 0 ⟨[],[],[]⟩ x.2 ++ [])) af hS ?_ (fun x a w2 hS h=>?_))
 ·repeat refine zX rfl ?_
  refine zB rfl ?_
  repeat refine zX rfl ?_
  have h1:=((((h.nil 4 1).nil 21 1).nil 3 1).box (T:=73) (k:=5) #[Vi L,.slice none 0 0,.slice none 0 0,.slice none 0 0,Vi 0] rfl);exact aj ⟨(w1.heap.size,⟨.slice none 0 0,.slice none 0 0,.slice none 0 0⟩),⟨rfl,rfl,rfl,trivial⟩,h1⟩
 obtain ⟨b,V⟩:=x;simp only at hS h;refine wp_seq (cut (F:=fun a' w'=>St Tryz.f34.ntmps a' [(0,Vi L),(1,vms),(5,Vp b)] ∧ ∃ V,Hold base w1 w' (grR b L (totG ms) ⟨[],[],[]⟩ V ++ [])) ?_ ?_)
 ·refine wp_seq (ai [(0,Vi L),(1,vms),(18,vms),(19,Vi ms.length),(20,Vi (0 : Nat)),(5,Vp b)] (· = w2) af hS ?_ (fun a w3 hS hw=>?_))
  ·subst hvms
   repeat refine zX rfl ?_
   exact aj ⟨⟨rfl,rfl,rfl,rfl,rfl,rfl,trivial⟩,rfl⟩
  subst hw;refine wp_block (cz hS (fun g E w'=>∃ k : Nat,k ≤ ms.length ∧ g = ms.length - k ∧ E = [(0,Vi L),(1,vms),(18,vms),(19,Vi ms.length),(20,Vi k),(5,Vp b)] ∧ ∃ V,Hold base w1 w' (grR b L (totG (ms.take k)) ⟨[],[],[]⟩ V ++ [])) ms.length ⟨0,by omega,by omega,rfl,V,h⟩ ?_);clear h hS;rintro g E w4 a ⟨k,hk,rfl,rfl,V,h⟩ hS;refine wp_seq (ai [(0,Vi L),(1,vms),(18,vms),(19,Vi ms.length),(20,Vi k),(5,Vp b),(21,.bool (decide (k < ms.length)))] (· = w4) af hS ?_ (fun a w5 hS hw=>?_))
  ·repeat refine zX rfl ?_
   refine zC rfl (co _ _) ?_
   repeat refine zX rfl ?_
   exact aj ⟨⟨rfl,rfl,rfl,rfl,rfl,rfl,rfl,trivial⟩,rfl⟩
  subst hw;refine wp_seq (cond hS rfl (fun hT=>wp_skip ?_) (fun hF=>?_))
  rotate_left
  ·have hkk : k = ms.length:=by have:=of_decide_eq_false hF; omega
   subst hkk;rw [List.take_length] at h;refine wp_exit ?_
   repeat first|refine bf ?_|refine ba ?_|refine az rfl ?_
   exact ⟨hS.sub ⟨rfl,rfl,rfl,trivial⟩,V,h⟩
  have hkk : k < ms.length:=of_decide_eq_true hT;obtain ⟨vn,ve,hcs,hMa⟩:=hm k hkk;obtain ⟨an,_,_,cn,hvn,-⟩:=id hMa.n;obtain ⟨ae,_,_,ce,hve,-⟩:=id hMa.e;subst hvn hve;replace hcs:=l5 (hmK w5 h.b) _ _ hcs;obtain ⟨hts1,hts2⟩:=pu ms k hkk;refine wp_seq (wp_block (wp_seq (bg (α:=Nat) (fun M=>[(0,Vi L),(1,vms),(18,vms),(19,Vi ms.length),(20,Vi k),(5,Vp b),(7,Vp M)]) (fun M w'=>Hold base w1 w' (mX M (L : Int) ms[k].s (.slice an ms[k].n.length cn) (.slice ae ms[k].f.length ce) :: (grR b L (totG (ms.take k)) ⟨[],[],[]⟩ V ++ []))) af hS ?_ (fun M a w6 hS h=>?_))))
  ·subst hvms;refine zI rfl (rfl) (hkk) ?_;refine zA ([Vi L,Vi ms[k].s,.slice an ms[k].n.length cn,.slice ae ms[k].f.length ce]) rfl rfl (hcs) ?_;refine zB rfl ?_;obtain ⟨hv1,hv2⟩:=h.var (T:=25) (k:=4) [Vi 0,Vi 0,.slice none 0 0,.slice none 0 0] [Vi L,Vi ms[k].s,.slice an ms[k].n.length cn,.slice ae ms[k].f.length ce] rfl rfl;refine cj rfl rfl (anI rfl (anI rfl (anI (b0 (OwnB.new w5 [Vi 0,Vi 0,.slice none 0 0,.slice none 0 0] 25)) ?_)));exact aj ⟨w5.heap.size,⟨rfl,rfl,rfl,rfl,rfl,rfl,rfl,trivial⟩,hv1⟩
  refine lay_r5 h (hMa.keep (hmK w6 h.b)).n (by omega) (by rfl) hS (fun a w7 hS h=>?_);refine ay ?_;refine ai [(0,Vi L),(1,vms),(18,vms),(19,Vi ms.length),(20,Vi (k + 1 : Nat)),(5,Vp b)] (· = w7) af hS ?_ (fun a w8 hS hw=>?_)
  ·repeat refine zX rfl ?_
   refine zN rfl (bm _ 1 (by omega)) ?_
   repeat refine zX rfl ?_
   exact aj ⟨⟨rfl,rfl,rfl,rfl,rfl,rfl,trivial⟩,rfl⟩
  subst hw;refine ⟨ms.length - (k + 1),_,by omega,⟨k + 1,by omega,rfl,rfl,V,?_⟩,hS⟩;rw [hts1];exact h.tail
 clear h hS;rintro a w3 ⟨hS,V,h⟩;obtain ⟨tot,htt⟩ : ∃ tot,totG ms = tot:=⟨_,rfl⟩;rw [htt] at h htot ⊢;obtain ⟨⟨vst,vnx,ven⟩,hV⟩ : ∃ V',V' = V:=⟨_,rfl⟩;subst hV;have hcap : (tot + 1) * L ≤ 10001 * 300:=Nat.mul_le_mul (by omega) hL;refine wp_seq (bg (α:=GV) (fun _=>[(0,Vi L),(1,vms),(5,Vp b)]) (fun V w'=>Hold base w1 w' (grR b L tot ⟨[],[],[]⟩ V ++ [])) af hS ?_ (fun V a w4 hS h=>?_))
 ·repeat refine zX rfl ?_
  refine zL rfl (h.r.xcell (i:=0) rfl (j:=4) rfl) ?_;refine zN rfl (bm _ 1 (by omega)) ?_
  repeat refine zX rfl ?_
  refine zN rfl (lz _ _ (by omega)) ?_;refine b8 rfl rfl rfl (exI 0 (exI ((tot + 1) * L) (anI rfl (anI rfl (anI (Nat.zero_le _) (anI rfl (anI rfl (anI (by show 4 * _ ≤ _; omega) (anI (by omega) ?_)))))))))
  have h1 : Hold base w1 (w3.alloc (.cells (madeCells #[.int .i32 0] ((tot + 1) * L)) 21)) (oS (Vs w3.heap.size 0 ((tot + 1) * L)) [] :: (grR b L tot ⟨[],[],[]⟩ ⟨vst,vnx,ven⟩ ++ [])):=
   h.new (World.grownBy_alloc w3 _ none) (World.ownsRow_made w3 _ ((tot + 1) * L) h.s (by unfold maxLen; omega) (by simp [madeCells])) (.inr ⟨_,rfl,Nat.le_refl _⟩)
  repeat refine zX rfl ?_
  refine zS rfl rfl (h1.r.xcell (i:=1) rfl (j:=2) rfl) (h1.r.free (i:=1) rfl 2) ?_;have h2:=(h1.xstore (i:=1) rfl 2 (Vs w3.heap.size 0 ((tot + 1) * L))).erase 3;refine aj ⟨⟨vst,Vs w3.heap.size 0 ((tot + 1) * L),ven⟩,⟨rfl,rfl,rfl,trivial⟩,h2.perm ?_⟩;show List.Perm [_,_,_,_] [_,_,_,_];exact (List.Perm.swap _ _ _).trans (.cons _ (.swap _ _ _))
 have hoks : ∀ m ∈ ms,m.ok L:=fun m hmm=>(hok m hmm).1;refine wp_seq (cut (F:=fun a' w'=>St Tryz.f34.ntmps a' [(0,Vi L),(5,Vp b)] ∧ ∃ V,Hold base w1 w' (grR b L tot (layK tot ms ms.length) V ++ [])) ?_ ?_)
 ·refine wp_seq (ai [(0,Vi L),(46,vms),(47,Vi ms.length),(48,Vi (0 : Nat)),(5,Vp b)] (· = w4) af hS ?_ (fun a w5 hS hw=>?_))
  ·subst hvms
   repeat refine zX rfl ?_
   exact aj ⟨⟨rfl,rfl,rfl,rfl,rfl,trivial⟩,rfl⟩
  subst hw;refine wp_block (cz hS (fun g E w'=>∃ k : Nat,k ≤ ms.length ∧ g = ms.length - k ∧ E = [(0,Vi L),(46,vms),(47,Vi ms.length),(48,Vi k),(5,Vp b)] ∧ ∃ V,Hold base w1 w' (grR b L tot (layK tot ms k) V ++ [])) ms.length ⟨0,by omega,by omega,rfl,V,h⟩ ?_);clear h hS;rintro g E w6 a ⟨k,hk,rfl,rfl,V,h⟩ hS;refine wp_seq (ai [(0,Vi L),(46,vms),(47,Vi ms.length),(48,Vi k),(5,Vp b),(49,.bool (decide (k < ms.length)))] (· = w6) af hS ?_ (fun a w7 hS hw=>?_))
  ·repeat refine zX rfl ?_
   refine zC rfl (co _ _) ?_
   repeat refine zX rfl ?_
   exact aj ⟨⟨rfl,rfl,rfl,rfl,rfl,rfl,trivial⟩,rfl⟩
  subst hw;refine wp_seq (cond hS rfl (fun hT=>wp_skip ?_) (fun hF=>?_))
  rotate_left
  ·have hkk : k = ms.length:=by have:=of_decide_eq_false hF; omega
   subst hkk;refine wp_exit ?_
   repeat first|refine bf ?_|refine ba ?_|refine az rfl ?_
   exact ⟨hS.sub ⟨rfl,rfl,trivial⟩,V,h⟩
  have hkk : k < ms.length:=of_decide_eq_true hT;obtain ⟨vn,ve,hcs,hMa⟩:=hm k hkk;obtain ⟨an,_,_,cn,hvn,-⟩:=id hMa.n;obtain ⟨ae,_,_,ce,hve,-⟩:=id hMa.e;obtain ⟨hok1,hok2,hok3⟩:=hok _ (List.getElem_mem hkk);obtain ⟨hts1,hts2⟩:=pu ms k hkk;rw [htt] at hts2;obtain ⟨hg1,hg2,hg3⟩:=xa (tot:=tot) hoks k hk;obtain ⟨g,hg⟩ : ∃ g,g = layK tot ms k:=⟨_,rfl⟩;rw [← hg] at hg1 hg2 hg3 h;obtain ⟨m,hmm⟩ : ∃ m,m = ms[k]:=⟨_,rfl⟩;rw [← hmm] at hcs hMa hok1 hok2 hok3 hts1 hvn hve;have hroom : (g.en.length + m.n.length) * L ≤ 10000 * 300:=Nat.mul_le_mul (by omega) hL;rw [Nat.add_mul] at hroom;replace hcs:=l5 (hmK w7 h.b) _ _ hcs;refine wp_seq (wp_block (wp_seq (bg (α:=Nat) (fun M=>[(0,Vi L),(46,vms),(47,Vi ms.length),(48,Vi k),(5,Vp b),(9,Vp M)]) (fun M w'=>Hold base w1 w' (mX M (L : Int) m.s vn ve :: (grR b L tot g V ++ []))) af hS ?_ (fun M a w8 hS h=>?_))))
  ·subst hvn hve;rw [hmm] at hcs;subst hvms;refine zI rfl (rfl) (hkk) ?_;refine zA ([Vi L,Vi ms[k].s,.slice an ms[k].n.length cn,.slice ae ms[k].f.length ce]) rfl rfl (hcs) ?_;refine zB rfl ?_;obtain ⟨hv1,hv2⟩:=h.var (T:=25) (k:=4) [Vi 0,Vi 0,.slice none 0 0,.slice none 0 0] [Vi L,Vi ms[k].s,.slice an ms[k].n.length cn,.slice ae ms[k].f.length ce] rfl rfl;refine cj rfl rfl (anI rfl (anI rfl (anI (b0 (OwnB.new w7 [Vi 0,Vi 0,.slice none 0 0,.slice none 0 0] 25)) ?_)));rw [← hmm] at hv1 ⊢;exact aj ⟨w7.heap.size,⟨rfl,rfl,rfl,rfl,rfl,rfl,trivial⟩,hv1⟩
  obtain ⟨first,hfi⟩ : ∃ first,first = g.en.length:=⟨_,rfl⟩;obtain ⟨⟨vst,vnx,ven⟩,hV⟩ : ∃ V',V' = V:=⟨_,rfl⟩;subst hV;obtain ⟨ge,ce',hve',-⟩:=h.r.any (i:=4) rfl;dsimp only at hve';subst hve';refine wp_seq (ai [(0,Vi L),(46,vms),(47,Vi ms.length),(48,Vi k),(5,Vp b),(9,Vp M),(10,Vi first)] (· = w8) af hS ?_ (fun a w9 hS hw=>?_))
  ·subst hfi
   repeat refine zX rfl ?_
   refine zL rfl (h.r.xcell (i:=1) rfl (j:=3) rfl) ?_
   repeat refine zX rfl ?_
   exact aj ⟨⟨rfl,rfl,rfl,rfl,rfl,rfl,rfl,trivial⟩,rfl⟩
  subst hw;have hps:=akb (tot:=tot) (first:=first) (n:=m.n.length) (st:=m.s) (by omega) hok3;refine wp_seq (lay_r12 h (by omega) (by omega) (by rfl) (hS.sub ⟨rfl,rfl,rfl,rfl,rfl,rfl,rfl,trivial⟩) (fun V a w10 hS h=>?_));obtain ⟨g1,hg1'⟩ : ∃ g1 : GP,g1 = { g with st:=g.st ++ [plG tot first m.s] }:=⟨_,rfl⟩
  rw [← hg1'] at h;have hg1n : g1.nx.length = first * L:=by rw [hg1',hfi]; exact hg1
  have hvn0 : ∃ an cn,vn = .slice an m.n.length cn:=⟨an,cn,hvn⟩;clear hvn;refine wp_seq (cut (F:=fun a' w'=>St Tryz.f34.ntmps a' [(0,Vi L),(46,vms),(47,Vi ms.length),(48,Vi k),(5,Vp b),(9,Vp M)] ∧ ∃ V,Hold base w1 w' (mX M (L : Int) m.s vn ve :: (grR b L tot (g1.rows tot first m.n) V ++ []))) ?_ ?_)
  ·refine wp_seq (ai [(0,Vi L),(46,vms),(47,Vi ms.length),(48,Vi k),(5,Vp b),(9,Vp M),(10,Vi first),(72,vn),(73,Vi m.n.length),(74,Vi (0 : Nat))] (· = w10) af hS ?_ (fun a w11 hS hw=>?_))
   ·obtain ⟨an,cn,rfl⟩:=hvn0
    repeat refine zX rfl ?_
    refine zL rfl (h.r.xcell (i:=0) rfl (j:=2) rfl) ?_
    repeat refine zX rfl ?_
    exact aj ⟨⟨rfl,rfl,rfl,rfl,rfl,rfl,rfl,rfl,rfl,rfl,trivial⟩,rfl⟩
   subst hw;refine wp_block (cz hS (fun γ E w'=>∃ i : Nat,i ≤ m.n.length ∧ γ = m.n.length - i ∧ E = [(0,Vi L),(46,vms),(47,Vi ms.length),(48,Vi k),(5,Vp b),(9,Vp M),(10,Vi first),(72,vn),(73,Vi m.n.length),(74,Vi i)] ∧ ∃ V,Hold base w1 w' (mX M (L : Int) m.s vn ve :: (grR b L tot (g1.rows tot first (m.n.take i)) V ++ []))) m.n.length ⟨0,by omega,by omega,rfl,V,by simpa [GP.rows] using h⟩ ?_);clear h hS;rintro γ E w12 a ⟨i,hi,rfl,rfl,V,h⟩ hS;refine wp_seq (ai [(0,Vi L),(46,vms),(47,Vi ms.length),(48,Vi k),(5,Vp b),(9,Vp M),(10,Vi first),(72,vn),(73,Vi m.n.length),(74,Vi i),(75,.bool (decide (i < m.n.length)))] (· = w12) af hS ?_ (fun a w13 hS hw=>?_))
   ·repeat refine zX rfl ?_
    refine zC rfl (co _ _) ?_
    repeat refine zX rfl ?_
    exact aj ⟨⟨rfl,rfl,rfl,rfl,rfl,rfl,rfl,rfl,rfl,rfl,rfl,trivial⟩,rfl⟩
   subst hw;refine wp_seq (cond hS rfl (fun hT=>wp_skip ?_) (fun hF=>?_))
   rotate_left
   ·have hii : i = m.n.length:=by have:=of_decide_eq_false hF; omega
    subst hii;rw [List.take_length] at h;refine wp_exit ?_
    repeat first|refine bf ?_|refine ba ?_|refine az rfl ?_
    exact ⟨hS.sub ⟨rfl,rfl,rfl,rfl,rfl,rfl,trivial⟩,V,h⟩
   have hii : i < m.n.length:=of_decide_eq_true hT;obtain ⟨bn,on,cn,hvn,ar,cr,hrow,hcol⟩:=hMa.cell hii;have hrl : m.n[i].length = L:=hok1.2 _ (List.getElem_mem hii);obtain ⟨gi,hgi⟩ : ∃ gi : GP,gi = g1.rows tot first (m.n.take i):=⟨_,rfl⟩;rw [← hgi] at h
   have hgin : gi.nx.length = first * L + i * L:=by
    rw [hgi,r6]
    have:=(xd (L:=L) (m.n.take i) (plG tot first) (fun r hr=>hok1.2 r (List.mem_of_mem_take hr))).1
    show (g1.nx ++ _).length = _;rw [List.length_append,this,hg1n,List.length_take,Nat.min_eq_left hi]
   have hiL : i * L + L ≤ m.n.length * L:=by
    have:=Nat.mul_le_mul_right L (show i + 1 ≤ m.n.length from hii)
    rwa [Nat.succ_mul] at this
   rw [← hfi] at hroom;refine wp_seq (wp_block (wp_seq (ai [(0,Vi L),(46,vms),(47,Vi ms.length),(48,Vi k),(5,Vp b),(9,Vp M),(10,Vi first),(72,vn),(73,Vi m.n.length),(74,Vi i),(12,.slice ar m.n[i].length cr)] (· = w13) af hS ?_ (fun a w14 hS hw=>?_))))
   ·subst hvn;refine zI rfl (rfl) (hii) ?_;refine zL rfl (keep (hmK w13 h.b) hrow) ?_
    repeat refine zX rfl ?_
    exact aj ⟨⟨rfl,rfl,rfl,rfl,rfl,rfl,rfl,rfl,rfl,rfl,rfl,trivial⟩,rfl⟩
   subst hw;refine wp_seq (ai [(0,Vi L),(46,vms),(47,Vi ms.length),(48,Vi k),(5,Vp b),(9,Vp M),(10,Vi first),(72,vn),(73,Vi m.n.length),(74,Vi i),(78,.slice ar m.n[i].length cr),(79,Vi (m.n[i].length : Int)),(80,Vi (0 : Nat))] (· = w14) af hS ?_ (fun a w15 hS hw=>?_))
   ·repeat refine zX rfl ?_
    exact aj ⟨⟨rfl,rfl,rfl,rfl,rfl,rfl,rfl,rfl,rfl,rfl,rfl,rfl,rfl,trivial⟩,rfl⟩
   subst hw;refine wp_block (cz hS (fun γ E w'=>∃ j : Nat,j ≤ m.n[i].length ∧ γ = m.n[i].length - j ∧ E = [(0,Vi L),(46,vms),(47,Vi ms.length),(48,Vi k),(5,Vp b),(9,Vp M),(10,Vi first),(72,vn),(73,Vi m.n.length),(74,Vi i),(78,.slice ar m.n[i].length cr),(79,Vi (m.n[i].length : Int)),(80,Vi j)] ∧ ∃ V,Hold base w1 w' (mX M (L : Int) m.s vn ve :: (grR b L tot (gi.row tot first (m.n[i].take j)) V ++ []))) m.n[i].length ⟨0,by omega,by omega,rfl,V,by simpa [GP.row] using h⟩ ?_);clear h hS;rintro γ E w16 a ⟨j,hj,rfl,rfl,V,h⟩ hS;refine wp_seq (ai [(0,Vi L),(46,vms),(47,Vi ms.length),(48,Vi k),(5,Vp b),(9,Vp M),(10,Vi first),(72,vn),(73,Vi m.n.length),(74,Vi i),(78,.slice ar m.n[i].length cr),(79,Vi (m.n[i].length : Int)),(80,Vi j),(81,.bool (decide (j < m.n[i].length)))] (· = w16) af hS ?_ (fun a w17 hS hw=>?_))
   ·repeat refine zX rfl ?_
    refine zC rfl (co _ _) ?_
    repeat refine zX rfl ?_
    exact aj ⟨⟨rfl,rfl,rfl,rfl,rfl,rfl,rfl,rfl,rfl,rfl,rfl,rfl,rfl,rfl,trivial⟩,rfl⟩
   subst hw;refine wp_seq (cond hS rfl (fun hT=>wp_skip ?_) (fun hF=>?_))
   rotate_left
   ·have hjj : j = m.n[i].length:=by have:=of_decide_eq_false hF; omega
    subst hjj;rw [List.take_length] at h;refine wp_exit ?_
    repeat first|refine bf ?_|refine ba ?_|refine az rfl ?_
    refine ay ?_;refine ai [(0,Vi L),(46,vms),(47,Vi ms.length),(48,Vi k),(5,Vp b),(9,Vp M),(10,Vi first),(72,vn),(73,Vi m.n.length),(74,Vi (i + 1 : Nat))] (· = w17) af hS ?_ (fun a w18 hS hw=>?_)
    ·repeat refine zX rfl ?_
     refine zN rfl (bm _ 1 (by omega)) ?_
     repeat refine zX rfl ?_
     exact aj ⟨⟨rfl,rfl,rfl,rfl,rfl,rfl,rfl,rfl,rfl,rfl,trivial⟩,rfl⟩
    subst hw;refine ⟨m.n.length - (i + 1),_,by omega,⟨i + 1,by omega,rfl,rfl,V,?_⟩,hS⟩
    have e : g1.rows tot first (m.n.take (i + 1)) = gi.row tot first m.n[i]:=by
     rw [hgi];unfold GP.rows;rw [List.take_succ_eq_append_getElem hii,List.foldl_append]; rfl
    rw [e];exact h
   have hjj : j < m.n[i].length:=of_decide_eq_true hT;obtain ⟨br,orr,har,hcell⟩:=hcol j hjj;have hx:=hok2 _ (List.getElem_mem hii) _ (List.getElem_mem hjj);have hpx:=akb (tot:=tot) (first:=first) (n:=m.n.length) (st:=m.n[i][j]) (by omega) hx;refine wp_seq (wp_block (wp_seq (ai [(0,Vi L),(46,vms),(47,Vi ms.length),(48,Vi k),(5,Vp b),(9,Vp M),(10,Vi first),(72,vn),(73,Vi m.n.length),(74,Vi i),(78,.slice ar m.n[i].length cr),(79,Vi (m.n[i].length : Int)),(80,Vi j),(14,Vi m.n[i][j])] (· = w17) af hS ?_ (fun a w18 hS hw=>?_))))
   ·subst har;refine zI rfl (rfl) (hjj) ?_;refine zL rfl (keep (hmK w17 h.b) hcell) ?_
    repeat refine zX rfl ?_
    exact aj ⟨⟨rfl,rfl,rfl,rfl,rfl,rfl,rfl,rfl,rfl,rfl,rfl,rfl,rfl,rfl,trivial⟩,rfl⟩
   subst hw
   have hgl : (gi.row tot first (m.n[i].take j)).nx.length ≤ 1000000000:=by
    show (gi.nx ++ _).length ≤ _;rw [List.length_append,hgin,List.length_map,List.length_take];omega
   refine lay_r19 h (by omega) (by omega) hgl (by rfl) hS (fun V a w19 hS h=>?_);refine ay ?_;refine ai [(0,Vi L),(46,vms),(47,Vi ms.length),(48,Vi k),(5,Vp b),(9,Vp M),(10,Vi first),(72,vn),(73,Vi m.n.length),(74,Vi i),(78,.slice ar m.n[i].length cr),(79,Vi (m.n[i].length : Int)),(80,Vi (j + 1 : Nat))] (· = w19) af hS ?_ (fun a w20 hS hw=>?_)
   ·repeat refine zX rfl ?_
    refine zN rfl (bm _ 1 (by omega)) ?_
    repeat refine zX rfl ?_
    exact aj ⟨⟨rfl,rfl,rfl,rfl,rfl,rfl,rfl,rfl,rfl,rfl,rfl,rfl,rfl,trivial⟩,rfl⟩
   subst hw;refine ⟨m.n[i].length - (j + 1),_,by omega,⟨j + 1,by omega,rfl,rfl,V,?_⟩,hS⟩
   have e : gi.row tot first (m.n[i].take (j + 1)) = { gi.row tot first (m.n[i].take j) with nx:=(gi.row tot first (m.n[i].take j)).nx ++ [plG tot first m.n[i][j]] }:=by
    unfold GP.row;rw [List.take_succ_eq_append_getElem hjj,List.map_append,List.map_singleton,← List.append_assoc]
   rw [e];exact h
  clear h hS;rintro a w11 ⟨hS,V,h⟩;have hrl2 : (g1.rows tot first m.n).en.length = first:=by rw [r6,hg1',hfi]
  refine lay_r22 h (fin:=m.f) (hMa.keep (hmK w11 h.b)).e hMa.oke (by rw [hrl2,hok1.1]; omega) (by rfl) hS (fun V a w12 hS h=>?_);refine ay ?_;refine ai [(0,Vi L),(46,vms),(47,Vi ms.length),(48,Vi (k + 1 : Nat)),(5,Vp b)] (· = w12) af hS ?_ (fun a w13 hS hw=>?_)
  ·repeat refine zX rfl ?_
   refine zN rfl (bm _ 1 (by omega)) ?_
   repeat refine zX rfl ?_
   exact aj ⟨⟨rfl,rfl,rfl,rfl,rfl,trivial⟩,rfl⟩
  subst hw;refine ⟨ms.length - (k + 1),_,by omega,⟨k + 1,by omega,rfl,rfl,V,?_⟩,hS⟩
  have e : layK tot ms (k + 1) = { g1.rows tot first m.n with en:=(g1.rows tot first m.n).en ++ m.f }:=by
   rw [yo hkk,← hg,← hmm,hg1',hfi];unfold GP.add;rw [r6]
  rw [e];exact h.tail
 clear h hS;rintro a w5 ⟨hS,V,h⟩;obtain ⟨hg1,hg2,hg3⟩:=xa (tot:=tot) hoks ms.length (Nat.le_refl _);rw [List.take_length,htt] at hg2;obtain ⟨g,hg⟩ : ∃ g,g = layK tot ms ms.length:=⟨_,rfl⟩;rw [← hg] at hg1 hg2 h;have htl : tot * L ≤ 10000 * 300:=Nat.mul_le_mul htot hL;rw [hg2] at hg1;refine wp_seq (cut (F:=fun a' w'=>St Tryz.f34.ntmps a' [(5,Vp b)] ∧ ∃ V,Hold base w1 w' (grR b L tot ⟨g.st,g.nx ++ List.replicate L tot,g.en⟩ V ++ [])) ?_ ?_)
 ·refine wp_seq (ai [(5,Vp b),(111,Vi L),(112,Vi (0 : Nat))] (· = w5) af hS ?_ (fun a w6 hS hw=>?_))
  ·repeat refine zX rfl ?_
   exact aj ⟨⟨rfl,rfl,rfl,trivial⟩,rfl⟩
  subst hw;refine wp_block (cz hS (fun γ E w'=>∃ i : Nat,i ≤ L ∧ γ = L - i ∧ E = [(5,Vp b),(111,Vi L),(112,Vi i)] ∧ ∃ V,Hold base w1 w' (grR b L tot ⟨g.st,g.nx ++ List.replicate i tot,g.en⟩ V ++ [])) L ⟨0,by omega,by omega,rfl,V,by simpa using h⟩ ?_);clear h hS;rintro γ E w7 a ⟨i,hi,rfl,rfl,V,h⟩ hS;refine wp_seq (ai [(5,Vp b),(111,Vi L),(112,Vi i),(113,.bool (decide (i < L)))] (· = w7) af hS ?_ (fun a w8 hS hw=>?_))
  ·repeat refine zX rfl ?_
   refine zC rfl (co _ _) ?_
   repeat refine zX rfl ?_
   exact aj ⟨⟨rfl,rfl,rfl,rfl,trivial⟩,rfl⟩
  subst hw;refine wp_seq (cond hS rfl (fun hT=>wp_skip ?_) (fun hF=>?_))
  rotate_left
  ·have hii : i = L:=by have:=of_decide_eq_false hF; omega
   subst hii;refine wp_exit ?_
   repeat first|refine bf ?_|refine ba ?_|refine az rfl ?_
   exact ⟨hS.sub ⟨rfl,trivial⟩,V,h⟩
  have hii : i < L:=of_decide_eq_true hT;refine wp_seq (wp_block (lay_r26 h (by omega) (by simp; omega) (by rfl) (hS.sub ⟨rfl,rfl,rfl,trivial⟩) (fun V a w9 hS h=>?_)));refine ay ?_;refine ai [(5,Vp b),(111,Vi L),(112,Vi (i + 1 : Nat))] (· = w9) af hS ?_ (fun a w10 hS hw=>?_)
  ·repeat refine zX rfl ?_
   refine zN rfl (bm _ 1 (by omega)) ?_
   repeat refine zX rfl ?_
   exact aj ⟨⟨rfl,rfl,rfl,trivial⟩,rfl⟩
  subst hw;refine ⟨L - (i + 1),_,by omega,⟨i + 1,by omega,rfl,rfl,V,?_⟩,hS⟩;rw [List.replicate_succ',← List.append_assoc];exact h
 clear h hS;rintro a w6 ⟨hS,V,h⟩;obtain ⟨⟨vst,vnx,ven⟩,hV⟩ : ∃ V',V' = V:=⟨_,rfl⟩;subst hV;obtain ⟨ge,cge,hve',-⟩:=h.r.any (i:=3) rfl;dsimp only at hve';subst hve';refine wp_seq (bg (α:=Value) (fun _=>[(5,Vp b)]) (fun v w'=>Hold base w1 w' (grR b L tot ⟨g.st,g.nx ++ List.replicate L tot,g.en ++ [false]⟩ ⟨vst,vnx,v⟩ ++ [])) af hS ?_ (fun v a w7 hS h=>?_))
 ·repeat refine zX rfl ?_
  refine zL rfl (h.r.xcell (i:=0) rfl (j:=3) rfl) ?_;refine b8 rfl rfl rfl ?_;refine exI [(0,.bool false)] (exI #[.bool false] (anI (anI rfl rfl) (anI (by decide) (anI (fillB' _ _) ?_))));have h1:=h.alloc (.cells #[.bool false] 4)
  have ask : AppAsk (w6.alloc (.cells #[.bool false] 4)) ⟨4,.bool,1,1,.bool false⟩ (.slice ge g.en.length cge) g.en.length (ip g.en) (Vs w6.heap.size 1 1) 1 [.bool false] base:=
   ⟨h1.r.1 3 _ rfl,.inr ⟨_,0,_,rfl,ax rfl,trivial⟩,rfl,(by simp [Value.oneCell']),(by omega),(by show (g.en.length + 1) * 1 ≤ _; omega),h1.s⟩
  refine b8 rfl rfl rfl ?_;refine exI _ (exI _ (exI _ (exI _ (exI _ (anI (ask) (anI (fun _ h=>h.symm) (anI (by decide) ?_)))))));rintro v' w7 hown hgr - hat;have h2:=h1.appB (ys:=[false]) (i:=3) rfl hown hgr hat;obtain ⟨g2,n2,c2,hv⟩:=df hown;subst hv
  repeat refine zX rfl ?_
  refine zS rfl rfl (h2.r.xcell (i:=0) rfl (j:=3) rfl) (h2.r.free (i:=0) rfl 3) ?_;exact aj ⟨.slice g2 n2 c2,⟨rfl,trivial⟩,h2.xstore (i:=0) rfl 3 (.slice g2 n2 c2)⟩
 refine wp_seq (ai [(4,Vp b)] (· = w7) af hS ?_ (fun a w8 hS hw=>?_))
 ·repeat refine zX rfl ?_
  exact aj ⟨⟨rfl,trivial⟩,rfl⟩
 subst hw;refine wp_ret ?_
 repeat first|refine a8 ?_|refine am ?_
 refine ret1 hS rfl rfl ⟨b,⟨vst,vnx,v⟩,rfl,?_⟩
 have e : layG L ms = ⟨g.st,g.nx ++ List.replicate L tot,g.en ++ [false]⟩:=by
  rw [hg];unfold layG layK;rw [List.take_length,htt]
 rw [e];exact h
end
end
section
section
variable (key : Nat → Nat)
def cntK : Nat → Nat → Nat
 | 0,_=>0
 | k + 1,i=>cntK k i + if key k = i then 1 else 0
def cumK : Nat → Nat → Nat
 | 0,_=>0
 | k + 1,i=>cumK k i + if key k ≤ i then 1 else 0
end
section
variable {key : Nat → Nat}
theorem xq : ∀ k,cumK key k 0 = cntK key k 0
 | 0=>rfl
 | k + 1=>by
   simp only [cumK,cntK,xq k,Nat.le_zero_eq]
theorem m8 (i : Nat) : ∀ k,cumK key k (i + 1) = cumK key k i + cntK key k (i + 1)
 | 0=>rfl
 | k + 1=>by
   simp only [cumK,cntK,m8 i k]
   by_cases h1 : key k ≤ i
   ·rw [if_pos h1,if_pos (by omega),if_neg (by omega)]; omega
   ·by_cases h2 : key k = i + 1
    ·rw [if_neg h1,if_pos (by omega),if_pos h2]; omega
    ·rw [if_neg h1,if_neg (by omega),if_neg h2]; omega
theorem y5 (i : Nat) : ∀ k,cumK key k i ≤ k
 | 0=>Nat.le_refl _
 | k + 1=>by
   have:=y5 i k
   simp only [cumK]
   split <;> omega
theorem na (i : Nat) (k : Nat) : cntK key k i ≤ cumK key k i:=by
 cases i with
 | zero=>rw [xq]; exact Nat.le_refl _
 | succ i=>rw [m8]; omega
theorem xt {i k : Nat} : ∀ j,cntK key k i ≤ cntK key (k + j) i
 | 0=>Nat.le_refl _
 | j + 1=>by
   have:=xt (i:=i) (k:=k) j
   show _ ≤ cntK key (k + j) i + _;omega
theorem akj {i k E : Nat} (hk : k < E) (h : key k = i) : cntK key k i + 1 ≤ cntK key E i:=by
 have:=xt (key:=key) (i:=i) (k:=k + 1) (E - (k + 1))
 rw [show k + 1 + (E - (k + 1)) = E by omega] at this;have e : cntK key (k + 1) i = cntK key k i + 1:=by simp [cntK,h]
 omega
theorem ahd {k i : Nat} : ∀ j,i < j → cumK key k i + cntK key k j ≤ cumK key k j
 | 0,h=>by omega
 | j + 1,h=>by
   rw [m8]
   by_cases e : i = j
   ·subst e; exact Nat.le_refl _
   ·have:=ahd (k:=k) (i:=i) j (by omega)
    omega
end
structure FillS (key : Nat → Nat) (E L k : Nat) (fs ls : List Nat) : Prop where
 fl : fs.length = E + 1
 ll : ls.length = E
 f : ∀ i,i ≤ E → gt fs i = cumK key E i - cntK key k i
 b : ∀ i p,i < E → cumK key E i - cntK key k i ≤ p → p < cumK key E i → ∃ a,a < k ∧ key a = i ∧ gt ls p = a / L
 c : ∀ a,a < k → ∃ p,cumK key E (key a) - cntK key k (key a) ≤ p ∧ p < cumK key E (key a) ∧ gt ls p = a / L
 d : ∀ i p q,i < E → cumK key E i - cntK key k i ≤ p → p < q → q < cumK key E i → gt ls p ≠ gt ls q
theorem FillS.at {key : Nat → Nat} {E L k : Nat} {fs ls : List Nat} (h : FillS key E L k fs ls) (hk : k < E) (hkey : key k < E) : 0 < gt fs (key k) ∧ gt fs (key k) - 1 < E ∧ cumK key E (key k) - cntK key k (key k) = gt fs (key k):=by
 have h1:=h.f (key k) (by omega);have h2:=akj (key:=key) hk rfl;have h3:=na (key:=key) (key k) E;have h4:=y5 (key:=key) (key k) E;omega
theorem FillS.step {key : Nat → Nat} {E L k : Nat} {fs ls : List Nat} (h : FillS key E L k fs ls) (hk : k < E) (hkey : key k < E) (hL : ∀ a,a < k → key a = key k → a / L ≠ k / L) :
  FillS key E L (k + 1) (fs.set (key k) (gt fs (key k) - 1)) (ls.set (gt fs (key k) - 1) (k / L)):=by
 obtain ⟨hpos,hlt,hfk⟩:=h.at hk hkey;have hc:=akj (key:=key) hk rfl;have hcc:=na (key:=key) (key k) E;have hcnt : ∀ i,cntK key (k + 1) i = cntK key k i + if key k = i then 1 else 0:=fun _=>rfl
 have hmono : ∀ i,cntK key k i ≤ cntK key E i:=fun i=>by
  have:=xt (key:=key) (i:=i) (k:=k) (E - k)
  rwa [show k + (E - k) = E by omega] at this
 have nj : ∀ i p,i ≠ key k → cumK key E i - cntK key k i ≤ p → p < cumK key E i → p ≠ gt fs (key k) - 1:=fun i p hi h1 h2 e=>by
  have m1:=hmono i;have m2:=hmono (key k)
  rcases Nat.lt_or_gt_of_ne hi with h3 | h3
  ·have:=ahd (key:=key) (k:=E) (key k) h3
   omega
  ·have:=ahd (key:=key) (k:=E) i h3
   have:=na (key:=key) i E
   omega
 refine ⟨by rw [List.length_set]; exact h.fl,by rw [List.length_set]; exact h.ll,fun i hi=>?_,fun i p hi h1 h2=>?_,fun a ha=>?_,fun i p q hi h1 h2 h3=>?_⟩
 ·rw [fh,hcnt]
  have:=h.f i hi
  by_cases e : key k = i
  ·subst e;rw [if_pos ⟨rfl,by rw [h.fl]; omega⟩,if_pos rfl];omega
  ·rw [if_neg (fun h=>e h.1),if_neg e]; exact this
 ·rw [fh,h.ll]
  by_cases e : gt fs (key k) - 1 = p
  ·rw [if_pos ⟨e,hlt⟩];refine ⟨k,by omega,?_,rfl⟩;refine Decidable.byContradiction fun hne=>?_;rw [hcnt,if_neg hne] at h1;exact nj i p (Ne.symm hne) (by omega) h2 e.symm
  ·rw [if_neg (fun h=>e h.1)]
   have h1' : cumK key E i - cntK key k i ≤ p:=by
    rw [hcnt] at h1
    by_cases e2 : key k = i
    ·rw [if_pos e2] at h1;subst e2;omega
    ·rw [if_neg e2] at h1; omega
   obtain ⟨a,ha,hb,hc⟩:=h.b i p hi h1' h2;exact ⟨a,by omega,hb,hc⟩
 ·rw [hcnt]
  by_cases e : a = k
  ·subst e;refine ⟨gt fs (key a) - 1,by rw [if_pos rfl]; omega,by omega,?_⟩;rw [fh,h.ll,if_pos ⟨rfl,hlt⟩]
  ·obtain ⟨p,h1,h2,h3⟩:=h.c a (by omega);refine ⟨p,by split <;> omega,h2,?_⟩;rw [fh,h.ll,if_neg,h3];rintro ⟨e2,_⟩
   by_cases e3 : key a = key k
   ·rw [e3] at h1; omega
   ·exact nj _ p e3 h1 h2 e2.symm
 ·rw [fh,fh,h.ll];rw [hcnt] at h1
  by_cases e : key k = i
  ·subst e;rw [if_pos rfl] at h1
   by_cases e1 : gt fs (key k) - 1 = p
   ·rw [if_pos ⟨e1,hlt⟩,if_neg (by omega)];obtain ⟨a,ha,hb,hc2⟩:=h.b (key k) q hi (by omega) h3;rw [hc2];exact (hL a ha hb).symm
   ·rw [if_neg (fun h=>e1 h.1),if_neg (by omega)];exact h.d (key k) p q hi (by omega) h2 h3
  ·rw [if_neg e] at h1;have a1:=nj i p (Ne.symm e) (by omega) (by omega);have a2:=nj i q (Ne.symm e) (by omega) h3;rw [if_neg (fun h=>a1 h.1.symm),if_neg (fun h=>a2 h.1.symm)];exact h.d i p q hi (by omega) h2 h3
def keyG (nx : List Nat) (L a : Nat) : Nat:=gt nx a * L + a % L
theorem pack {L x c : Nat} (hc : c < L) : (x * L + c) / L = x ∧ (x * L + c) % L = c:=by
 have : 0 < L:=by omega
 constructor
 ·rw [Nat.mul_comm,Nat.mul_add_div this,Nat.div_eq_of_lt hc,Nat.add_zero]
 ·rw [Nat.mul_comm,Nat.mul_add_mod,Nat.mod_eq_of_lt hc]
theorem keyG_lt {N L : Nat} {nx : List Nat} {en : List Bool} (h : Gr N L nx en) {a : Nat} (ha : a < N * L) : keyG nx L a < N * L:=by
 have hL : 0 < L:=by
  rcases Nat.eq_zero_or_pos L with h | h
  ·subst h; omega
  ·exact h
 have hd : a / L < N:=Nat.div_lt_of_lt_mul (by rw [Nat.mul_comm]; exact ha);have hm : a % L < L:=Nat.mod_lt _ hL
 have:=h.lt (a / L) (a % L) hd hm
 rw [show a / L * L + a % L = a by rw [Nat.mul_comm]; exact Nat.div_add_mod a L] at this;unfold keyG;have h2 : (gt nx a + 1) * L ≤ N * L:=Nat.mul_le_mul_right _ this;rw [Nat.succ_mul] at h2;omega
structure SrcOk (N L : Nat) (nx fs ls : List Nat) : Prop where
 fl : fs.length = N * L + 1
 ll : ls.length = N * L
 le : ∀ t c,t < N → c < L → gt fs (t * L + c) ≤ gt fs (t * L + c + 1) ∧ gt fs (t * L + c + 1) ≤ N * L
 mem : ∀ t c,t < N → c < L → ∀ s,(∃ p,gt fs (t * L + c) ≤ p ∧ p < gt fs (t * L + c + 1) ∧ gt ls p = s) ↔ s < N ∧ dlG nx L s c = t
 nd : ∀ t c,t < N → c < L → ∀ p q,gt fs (t * L + c) ≤ p → p < q → q < gt fs (t * L + c + 1) → gt ls p ≠ gt ls q
theorem agu {N L : Nat} {nx fs ls : List Nat} (h : FillS (keyG nx L) (N * L) L (N * L) fs ls) : SrcOk N L nx fs ls:=by
 have key : ∀ t c,t < N → c < L → t * L + c < N * L:=fun t c ht hc=>by
  have : (t + 1) * L ≤ N * L:=Nat.mul_le_mul_right _ ht;rw [Nat.succ_mul] at this;omega
 have f1 : ∀ i,i < N * L → gt fs (i + 1) = cumK (keyG nx L) (N * L) i:=fun i hi=>by
  rw [h.f (i + 1) (by omega),m8]; omega
 refine ⟨h.fl,h.ll,fun t c ht hc=>?_,fun t c ht hc s=>?_,fun t c ht hc p q h1 h2 h3=>?_⟩
 ·have hk:=key t c ht hc;rw [h.f _ (by omega),f1 _ hk];exact ⟨by omega,y5 _ _⟩
 ·have hk:=key t c ht hc;rw [h.f _ (by omega),f1 _ hk]
  constructor
  ·rintro ⟨p,h1,h2,rfl⟩;obtain ⟨a,ha,hb,hc2⟩:=h.b _ p hk h1 h2;have hd : a / L < N:=Nat.div_lt_of_lt_mul (by rw [Nat.mul_comm]; exact ha);have hm : a % L < L:=Nat.mod_lt _ (by omega);have e:=hb;unfold keyG at e;have e1:=congrArg (· / L) e;have e2:=congrArg (· % L) e;simp only [(pack hm).1,(pack hm).2,(pack hc).1,(pack hc).2] at e1 e2;refine ⟨by rw [hc2]; exact hd,?_⟩;rw [hc2];show gt nx (a / L * L + c) = t;rw [← e2,show a / L * L + a % L = a by rw [Nat.mul_comm]; exact Nat.div_add_mod a L];exact e1
  ·rintro ⟨hs,hd⟩;have hk2:=key s c hs hc;obtain ⟨p,h1,h2,h3⟩:=h.c (s * L + c) hk2
   have e : keyG nx L (s * L + c) = t * L + c:=by
    unfold keyG;rw [(pack hc).2,show gt nx (s * L + c) = t from hd]
   rw [e] at h1 h2;exact ⟨p,h1,h2,by rw [h3,(pack hc).1]⟩
 ·have hk:=key t c ht hc;rw [h.f _ (by omega)] at h1;rw [f1 _ hk] at h3;exact h.d _ p q hk h1 h2 h3
structure CntS (key : Nat → Nat) (E k : Nat) (fs : List Nat) : Prop where
 fl : fs.length = E + 1
 f : ∀ i,i ≤ E → gt fs i = cntK key k i
theorem CntS.step {key : Nat → Nat} {E k : Nat} {fs : List Nat} (h : CntS key E k fs) (hk : key k < E) : CntS key E (k + 1) (fs.set (key k) (gt fs (key k) + 1)):=
 ⟨by rw [List.length_set]; exact h.fl,fun i hi=>by
  rw [fh,h.fl];show _ = cntK key k i + _
  by_cases e : key k = i
  ·subst e;rw [if_pos ⟨rfl,by omega⟩,if_pos rfl,h.f _ (by omega)]
  ·rw [if_neg (fun h=>e h.1),if_neg e,h.f i hi]; omega⟩
structure SumS (key : Nat → Nat) (E j : Nat) (fs : List Nat) : Prop where
 fl : fs.length = E + 1
 lo : ∀ i,i ≤ j → gt fs i = cumK key E i
 hi : ∀ i,j < i → i ≤ E → gt fs i = cntK key E i
theorem CntS.sum {key : Nat → Nat} {E : Nat} {fs : List Nat} (h : CntS key E E fs) : SumS key E 0 fs:=
 ⟨h.fl,fun i hi=>by rw [show i = 0 by omega,h.f 0 (by omega),xq],fun i _ hi=>h.f i hi⟩
theorem SumS.step {key : Nat → Nat} {E j : Nat} {fs : List Nat} (h : SumS key E j fs) (hj : j < E) : SumS key E (j + 1) (fs.set (j + 1) (gt fs (j + 1) + gt fs j)):=
 ⟨by rw [List.length_set]; exact h.fl,fun i hi=>by
  rw [fh,h.fl]
  by_cases e : j + 1 = i
  ·subst e;rw [if_pos ⟨rfl,by omega⟩,h.hi (j + 1) (by omega) (by omega),h.lo j (Nat.le_refl _),m8]; omega
  ·rw [if_neg (fun h=>e h.1)]; exact h.lo i (by omega),fun i h1 h2=>by
  rw [fh,if_neg (by omega)]; exact h.hi i (by omega) h2⟩
theorem SumS.fill {key : Nat → Nat} {E L : Nat} {fs : List Nat} (h : SumS key E E fs) : FillS key E L 0 fs (List.replicate E 0):=
 ⟨h.fl,by simp,fun i hi=>by rw [h.lo i hi]; rfl,fun i p _ h1 h2=>by simp only [cntK] at h1; omega,fun a ha=>by omega,fun i p q _ h1 h2 h3=>by simp only [cntK] at h1; omega⟩
end
end Go.Proofs.YtndldmojkpjgoaaGreatDoor
