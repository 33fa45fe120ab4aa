/- AutoJoins holds of the program as it landed: Both and Either give, for any two machines of at most 30 states and 8 letters, what the product of the two gives, made small. -/
import Derived.DeepKeys4
import Derived.Shelf.SlSortCmp.WholeK
import Derived.Shelf.SlSortCmp.NoneTotal
import Derived.Test.YthcoppfiahnpoaaGreatVj4
set_option maxRecDepth 100000
namespace Go.Proofs.YthcoppfiahnpoaaGreat
theorem find_alike {L s s0 : Int} {next : List (List Int)} {fin : List Bool} (h : Shape L s0 next fin) {f : FS} (hf : Found s next L.toNat f) :
  ∀ (w : List Nat) (t : Int),Word L.toNat w → t < next.length → (0 ≤ t → 0 ≤ plcM f.place t) → accM (f.rows.map (renumM f.place next L.toNat)) (foundFin f fin) (plcM f.place t) w = accM next fin t w
 | w,t,hw,hn,ht=>by
   by_cases hneg : t < 0
   ·rw [plcM_neg hneg,accM_neg _ _ w (by omega),accM_neg _ _ w hneg]
   ·obtain ⟨k,rfl⟩:=Int.eq_ofNat_of_zero_le (Int.not_lt.1 hneg)
    have hk : k < next.length:=by omega
    have hp:=ht (by omega)
    have hpe : plcM f.place k = f.place.getD k 0:=by rw [plcM,if_pos (by omega)]; rfl
    rw [hpe] at hp ⊢
    obtain ⟨j,e1,e2⟩:=hf.inn.of k hk hp
    obtain ⟨hj,e3⟩:=List.getElem?_eq_some_iff.1 e2
    rw [e1]
    cases w with
    | nil=>
      rw [accM_nil,accM_nil]
      simp [endsM,foundFin,hj,e3]
    | cons c w=>
      rw [accM_cons,accM_cons]
      have hc:=hw.head
      have hst : stepM (f.rows.map (renumM f.place next L.toNat)) j c = plcM f.place (stepM next k c):=by
       rw [stepM_get (by simpa using hj) (by simp only [List.getElem_map,renumM_len]; exact hc)]
       simp only [List.getElem_map]
       rw [renumM_get,e3,tgt_step (by omega)]
      rw [hst]
      have hrg:=stepM_range h (st:=k) (l:=c) (by omega) (by omega) (by have:=h.L0; omega)
      refine find_alike h hf w _ hw.tail hrg.2 (fun h0=>?_)
      have:=hf.closed j hj c hc
      rw [e3] at this
      rw [tgt_step (by omega)] at h0 ⊢
      exact this h0
 termination_by w=>w.length
theorem find_canon {L s s0 : Int} {next : List (List Int)} {fin : List Bool} (h : Shape L s0 next fin) {f : FS} (hf : Found s next L.toNat f)
  (hl : ∀ i : Nat,(i : Int) ∈ f.rows → Live L.toNat next fin i) (hd : ∀ i j : Nat,(i : Int) ∈ f.rows → (j : Int) ∈ f.rows → Alike L.toNat next fin i next fin j → i = j) :
  Canon L (if f.rows.length = 0 then -1 else 0) (f.rows.map (renumM f.place next L.toNat)) (foundFin f fin) ∧
   Alike L.toNat (f.rows.map (renumM f.place next L.toNat)) (foundFin f fin) (if f.rows.length = 0 then -1 else 0) next fin s:=by
 have hlen : (f.rows.map (renumM f.place next L.toNat)).length = f.rows.length:=by simp
 have hrow : ∀ j (hj : j < f.rows.length),∃ k : Nat,k < next.length ∧ f.rows[j] = k ∧ plcM f.place k = j:=fun j hj=>by
  obtain ⟨a,b,_⟩:=hf.inn.ok.r _ (List.getElem_mem hj)
  obtain ⟨k,hk⟩:=Int.eq_ofNat_of_zero_le a
  refine ⟨k,by omega,hk,?_⟩
  have:=hf.inn.at' j hj
  rw [hk] at this
  rw [plcM,if_pos (by omega)]; exact this
 have hal : ∀ j (hj : j < f.rows.length),Alike L.toNat (f.rows.map (renumM f.place next L.toNat)) (foundFin f fin) j next fin f.rows[j]:=fun j hj w hw=>by
  obtain ⟨k,k1,k2,k3⟩:=hrow j hj
  rw [k2,← find_alike h hf w k hw (by omega) (fun _=>by omega),k3]
 have hpos : 0 < f.rows.length ↔ 0 ≤ s:=by
  constructor
  ·intro h0
   refine Int.not_lt.1 fun hn=>?_
   rw [hf.none hn] at h0
   simp at h0
  ·intro h0
   exact (List.getElem?_eq_some_iff.1 (hf.first h0).1).1
 refine ⟨⟨⟨h.L0,by simp [foundFin],by split <;> omega,by split <;> omega,fun h0=>?_,fun k hk=>?_⟩,fun h0=>?_,fun i hi=>?_,fun i j hi hj he=>?_,fun h0=>?_⟩,?_⟩
 ·rw [hlen] at h0
  rw [if_neg (by omega)]; omega
 ·have hk' : k < f.rows.length:=by simpa using hk
  simp only [List.getElem_map]
  refine ⟨by rw [renumM_len]; have:=h.L0; omega,fun c hc=>?_⟩
  rw [renumM_get]
  rw [renumM_len] at hc
  rw [show ((List.map (renumM f.place next L.toNat) f.rows).length : Int) = f.rows.length by simp]
  obtain ⟨r,r1,r2,r3⟩:=hrow k hk'
  obtain ⟨t1,t2⟩:=tgt_range h f.rows[k] (by omega) (by omega) c hc
  by_cases hneg : tgtM next f.rows[k] c < 0
  ·rw [plcM_neg hneg]; omega
  ·have hc2:=hf.closed k hk' c hc (by omega)
   obtain ⟨t,ht⟩:=Int.eq_ofNat_of_zero_le (Int.not_lt.1 hneg)
   rw [ht] at hc2 t2 ⊢
   have hpe : plcM f.place t = f.place.getD t 0:=by rw [plcM,if_pos (by omega)]; rfl
   rw [hpe] at hc2 ⊢
   obtain ⟨j,e1,e2⟩:=hf.inn.of t (by omega) hc2
   have:=(List.getElem?_eq_some_iff.1 e2).1
   omega
 ·rw [hlen] at h0
  rw [if_neg (by omega)]
 ·rw [hlen] at hi
  obtain ⟨k,k1,k2,k3⟩:=hrow i hi
  have:=(hal i hi).symm
  rw [k2] at this
  exact this.live (hl k (k2 ▸ List.getElem_mem hi))
 ·rw [hlen] at hi hj
  obtain ⟨k,k1,k2,k3⟩:=hrow i hi
  obtain ⟨l,l1,l2,l3⟩:=hrow j hj
  have a1:=hal i hi
  have a2:=hal j hj
  rw [k2] at a1
  rw [l2] at a2
  have:=hd k l (k2 ▸ List.getElem_mem hi) (l2 ▸ List.getElem_mem hj) ((a1.symm.trans he).trans a2)
  subst this
  omega
 ·rw [hlen] at h0 ⊢
  exact (hf.first (hpos.1 h0)).2
 ·split
  ·rename_i h0
   have hs : s < 0:=by
    refine Int.not_le.1 fun hn=>?_
    have:=hpos.2 hn
    omega
   intro w _
   rw [accM_neg _ _ w (by decide),accM_neg _ _ w hs]
  ·rename_i h0
   have hs:=hpos.1 (by omega)
   obtain ⟨g1,g2⟩:=hf.first hs
   obtain ⟨g3,g4⟩:=List.getElem?_eq_some_iff.1 g1
   have:=hal 0 g3
   rwa [g4] at this
def FS.num (s : FS) (t : Int) : FS:=if 0 ≤ t ∧ s.place.getD t.toNat 0 < 0 then ⟨s.rows ++ [t],s.place.set t.toNat s.rows.length⟩ else s
theorem FS.step_num (next : List (List Int)) (r : Int) (s : FS) (c : Nat) : s.step next r c = s.num (tgtM next r c):=rfl
def FS.none (n : Nat) : FS:=⟨[],List.replicate n (-1)⟩
theorem FIn.none (n : Nat) : FIn n (FS.none n):=by
 refine ⟨⟨by simp [FS.none],fun x hx=>by simp [FS.none] at hx,by simp [FS.none]⟩,fun j hj=>by simp [FS.none] at hj,fun t ht h0=>?_,fun t ht=>?_⟩
 ·exfalso
  simp only [FS.none] at h0
  rw [getD_replicate ht] at h0; omega
 ·simp only [FS.none]
  rw [getD_replicate ht]; omega
theorem FIn.num {n : Nat} {s : FS} {t : Int} (h : FIn n s) (ht : t < n) (h1 : -1 ≤ t) : FIn n (s.num t) ∧ FLe n s (s.num t):=by
 have:=h.step (next:=[[t]]) (r:=0) (c:=0) (by show t < n; exact ht)
 exact this
theorem FIn.num_place {n : Nat} {s : FS} {t : Int} (h : FIn n s) (h0 : 0 ≤ t) (ht : t < n) : ∃ j : Nat,(s.num t).place.getD t.toNat 0 = (j : Int) ∧ (s.num t).rows[j]? = some t:=by
 obtain ⟨k,rfl⟩:=Int.eq_ofNat_of_zero_le h0
 obtain ⟨h1,-⟩:=h.num (t:=(k : Int)) ht (by omega)
 have hk : k < n:=by omega
 refine h1.of k hk ?_
 unfold FS.num
 split
 ·rename_i e
  simp only [Int.toNat_natCast]
  rw [getD_set,if_pos ⟨rfl,by rw [h.ok.p]; exact hk⟩]; omega
 ·rename_i e
  simp only [Int.toNat_natCast] at e
  omega
theorem foundM_go {s : Int} {next : List (List Int)} {L : Nat} (hs : s < next.length) (h1 : -1 ≤ s) : foundM s next L = foundGo next L next.length 0 ((FS.none next.length).num s):=by
 unfold foundM
 split
 ·rename_i h0
  have e : (FS.none next.length).num s = FS.none next.length:=by rw [FS.num,if_neg (by omega)]
  rw [e]
  cases next.length with
  | zero=>rfl
  | succ n=>simp [foundGo,FS.none]
 ·rename_i h0
  have e : (FS.none next.length).num s = ⟨[s],(List.replicate next.length (-1)).set s.toNat 0⟩:=by
   rw [FS.num,if_pos]
   ·rfl
   ·refine ⟨by omega,?_⟩
    simp only [FS.none]
    rw [getD_replicate (by omega)]; omega
  rw [e]
theorem foundGo_end {next : List (List Int)} {L g i : Nat} {s : FS} (h : s.rows.length ≤ i) : foundGo next L g i s = s:=by
 cases g with
 | zero=>rfl
 | succ g=>rw [foundGo,if_neg (by omega)]
theorem foundGo_next {next : List (List Int)} {L g i : Nat} {s : FS} (h : i < s.rows.length) : foundGo next L (g + 1) i s = foundGo next L g (i + 1) (s.row next (s.rows.getD i 0) L):=by
 rw [foundGo,if_pos h]
end Go.Proofs.YthcoppfiahnpoaaGreat
namespace Go.Proofs.YthcoppfiahnpoaaGreat
open Go Sym
theorem en_newFinderI : enters Tryz.prog 81 = true:=by kernel_rfl
theorem en_numberI : enters Tryz.prog 83 = true:=by kernel_rfl
def cd (nb x : Nat) : Int:=if x = nb then -1 else (x : Int)
theorem cd_lt {nb x n : Nat} (h : x < n) : -1 ≤ cd nb x ∧ cd nb x < n:=by unfold cd; split <;> omega
def plf (s : FS) (y : Nat) : Option Nat:=if 0 ≤ s.place.getD y (-1) then some (s.place.getD y (-1)).toNat else none
theorem getD_in {l : List Int} {i : Nat} {a b : Int} (h : i < l.length) : l.getD i a = l.getD i b:=by simp [List.getD_eq_getElem?_getD,h]
abbrev findX (T fb : Nat) (nv : List Value) (mb : Nat) (vf : Value) : Ow:=oX T fb (nv.length + 2) (nv ++ [.map (some mb),vf])
def FindN (base : Nat) (w0 w : World) (fb nb : Nat) (s : FS) (rest : List Ow) : Prop:=
 ∃ (mb : Nat) (vf : Value) (xs : List Nat),Hold base w0 w (findX 120 fb [natV nb] mb vf :: oN vf xs :: rest) ∧ s.rows = xs.map Int.ofNat ∧ MapN w mb xs.length (plf s) ∧ base ≤ mb
theorem plf_none (n : Nat) : plf (FS.none n) = fun _=>none:=by
 funext y
 unfold plf FS.none
 rw [if_neg]
 simp only [List.getD_eq_getElem?_getD,List.getElem?_replicate]
 split <;> simp
section
variable {base : Nat} {w0 w : World} {rest : List Ow}
theorem newFinderI_any (h : Hold base w0 w rest) (nb n : Nat) :
  Calls Tryz.prog 81 #[Vi nb] w fun e w'=>∃ fb,e = .returned (Vp fb) ∧ FindN base w0 w' fb nb (FS.none n) rest:=by
 refine Sym.enter (args:=[Vi nb]) Tryz.func81 rfl rfl rfl (fun a0 hS0=>?_)
 refine wp_seq (seq_cut [(0,Vi nb)] (· = w) tab_ok hS0 ?_ (fun a w1 hS hw=>?_))
 ·repeat first|refine zP rfl ?_|refine zK rfl ?_
  exact o_nil ⟨⟨rfl,trivial⟩,rfl⟩
 subst hw
 refine wp_seq (seq_cutx (α:=Nat) (fun fb=>[(2,Vp fb)]) (fun fb w'=>FindN base w0 w' fb nb (FS.none n) rest) tab_ok hS ?_ (fun fb a w2 hS hw=>?_))
 ·have hm:=MapF.made natL 3 w1
  have h1:=(h.alloc (.map #[] 0)).nil 3 1
  have h2:=h1.box (T:=120) (k:=3) #[natV nb,.map (some w1.heap.size),.slice none 0 0] rfl
  repeat first|refine zP rfl ?_|refine zK rfl ?_
  refine zB rfl ?_
  repeat first|refine zP rfl ?_|refine zK rfl ?_
  refine zB rfl ?_
  repeat first|refine zP rfl ?_|refine zK rfl ?_
  refine o_nil ⟨_,⟨rfl,trivial⟩,w1.heap.size,.slice none 0 0,[],h2,rfl,?_,h.s⟩
  rw [plf_none]
  exact hm.below (below_alloc _ _)
 refine wp_ret ?_
 repeat (first | refine then_ret ?_ | refine block_ret ?_)
 exact ret1 hS rfl rfl ⟨fb,rfl,hw⟩
theorem num_rows {n : Nat} {s : FS} {nb x : Nat} (hI : FIn n s) (hx : x < n) (hne : x ≠ nb) (h0 : s.place.getD x (-1) < 0) : (s.num (cd nb x)).rows = s.rows ++ [(x : Int)] ∧ plcM (s.num (cd nb x)).place (cd nb x) = s.rows.length ∧ plf (s.num (cd nb x)) = fun y=>if y = x then some s.rows.length else plf s y:=by
 have hl : x < s.place.length:=by rw [hI.ok.p]; exact hx
 have e : s.num (cd nb x) = ⟨s.rows ++ [(x : Int)],s.place.set x s.rows.length⟩:=by
  rw [cd,if_neg hne,FS.num,if_pos]
  ·rfl
  ·rw [Int.toNat_natCast,getD_in (b:=-1) hl]; omega
 rw [e]
 refine ⟨rfl,?_,?_⟩
 ·rw [cd,if_neg hne,plcM,if_pos (by omega),Int.toNat_natCast]
  dsimp only
  rw [getD_set,if_pos ⟨rfl,hl⟩]
 ·funext y
  unfold plf
  dsimp only
  have hg : ∀ y,(s.place.set x (s.rows.length : Int)).getD y (-1) = if y = x then (s.rows.length : Int) else s.place.getD y (-1):=fun y=>by
   rw [getD_set]
   by_cases e : x = y
   ·rw [if_pos ⟨e,hl⟩,if_pos e.symm]
   ·rw [if_neg (fun k=>e k.1),if_neg (fun k=>e k.symm)]
  simp only [hg]
  by_cases ey : y = x
  ·simp only [if_pos ey]
   rw [if_pos (by omega)]; simp
  ·simp only [if_neg ey]
theorem num_known {s : FS} {n nb x : Nat} (hI : FIn n s) (hx : x < n) (hne : x ≠ nb) (h0 : ¬ s.place.getD x (-1) < 0) : s.num (cd nb x) = s ∧ plcM s.place (cd nb x) = (((plf s x).getD 0 : Nat) : Int):=by
 have hl : x < s.place.length:=by rw [hI.ok.p]; exact hx
 constructor
 ·rw [cd,if_neg hne,FS.num,if_neg]
  rw [Int.toNat_natCast,getD_in (b:=-1) hl]; omega
 ·rw [cd,if_neg hne,plcM,if_pos (by omega),Int.toNat_natCast,plf,if_pos (by omega),Option.getD_some,getD_in (b:=-1) hl]; omega
theorem numberI_any {n fb nb : Nat} {s : FS} (h : FindN base w0 w fb nb s rest) (hI : FIn n s) (hn : n ≤ 100000) {x : Nat} (hx : x < n) :
  Calls Tryz.prog 83 #[Vp fb,Vi x] w fun e w'=>e = .returned (Vi (plcM (s.num (cd nb x)).place (cd nb x))) ∧ FindN base w0 w' fb nb (s.num (cd nb x)) rest:=by
 refine Sym.enter (args:=[Vp fb,Vi x]) Tryz.func83 rfl rfl rfl (fun a0 hS0=>?_)
 refine wp_seq (seq_cut [(0,Vp fb),(1,Vi x)] (· = w) tab_ok hS0 ?_ (fun a w1 hS hw=>?_))
 ·repeat first|refine zP rfl ?_|refine zK rfl ?_
  exact o_nil ⟨⟨rfl,rfl,trivial⟩,rfl⟩
 subst hw
 have hcap:=hI.ok.cap
 obtain ⟨mb,vf,xs,h,hrs,hm,hb⟩:=h
 have hxl : s.rows.length = xs.length:=by rw [hrs,List.length_map]
 refine wp_seq (wp_seq (seq_cut [(0,Vp fb),(1,Vi x),(12,.bool (decide (x = nb)))] (· = w1) tab_ok hS ?_ (fun a w2 hS hw=>?_)))
 ·repeat first|refine zP rfl ?_|refine zK rfl ?_
  refine zL rfl (h.r.xcell (i:=0) rfl (j:=0) rfl) ?_
  refine zC rfl (decide_nat _ _) ?_
  repeat first|refine zP rfl ?_|refine zK rfl ?_
  exact o_nil ⟨⟨rfl,rfl,rfl,trivial⟩,rfl⟩
 subst hw
 refine cond hS rfl (fun hT=>?_) (fun hF=>wp_skip ?_)
 ·have e : cd nb x = -1:=if_pos (of_decide_eq_true hT)
  refine wp_seq (seq_cut [(4,Vi (-1))] (· = w2) tab_ok hS ?_ (fun a w3 hS hw=>?_))
  ·repeat first|refine zP rfl ?_|refine zK rfl ?_
   exact o_nil ⟨⟨rfl,trivial⟩,rfl⟩
  subst hw
  have e2 : s.num (-1) = s:=by rw [FS.num,if_neg (by omega)]
  rw [e,e2]
  refine wp_ret ?_
  repeat (first | refine then_ret ?_ | refine block_ret ?_)
  exact ret1 hS rfl rfl ⟨rfl,mb,vf,xs,h,hrs,hm,hb⟩
 have hne : x ≠ nb:=of_decide_eq_false hF
 refine wp_seq (seq_cut [(0,Vp fb),(1,Vi x),(5,Vi (((plf s x).getD 0 : Nat) : Int)),(6,.bool (plf s x).isSome)] (· = w2) tab_ok hS ?_ (fun a w3 hS hw=>?_))
 ·repeat first|refine zP rfl ?_|refine zK rfl ?_
  refine zL rfl (h.r.xcell (i:=0) rfl (j:=1) rfl) ?_
  repeat first|refine zP rfl ?_|refine zK rfl ?_
  refine o_step rfl rfl rfl ?_
  refine ⟨_,MapN.look hm (by omega),?_⟩
  repeat first|refine zP rfl ?_|refine zK rfl ?_
  exact o_nil ⟨⟨rfl,rfl,rfl,rfl,trivial⟩,rfl⟩
 subst hw
 refine wp_seq (wp_seq (seq_cut [(0,Vp fb),(1,Vi x),(5,Vi (((plf s x).getD 0 : Nat) : Int)),(23,.bool (!(plf s x).isSome))] (· = w3) tab_ok hS ?_ (fun a w4 hS hw=>?_)))
 ·repeat first|refine zP rfl ?_|refine zK rfl ?_
  exact o_nil ⟨⟨rfl,rfl,rfl,rfl,trivial⟩,rfl⟩
 subst hw
 by_cases h0 : s.place.getD x (-1) < 0
 ·obtain ⟨k1,k2,k3⟩:=num_rows (nb:=nb) hI hx hne h0
  have hpn : plf s x = none:=by rw [plf,if_neg (by omega)]
  rw [hpn] at hS
  refine cond hS rfl (fun hT=>?_) (fun hF=>by cases hF)
  refine wp_seq (seq_cut [(0,Vp fb),(1,Vi x),(5,Vi xs.length)] (· = w4) tab_ok hS ?_ (fun a w5 hS hw=>?_))
  ·obtain ⟨g,c,rfl,-,-⟩:=h.r.any (i:=1) rfl
   repeat first|refine zP rfl ?_|refine zK rfl ?_
   refine zL rfl (h.r.xcell (i:=0) rfl (j:=2) rfl) ?_
   repeat first|refine zP rfl ?_|refine zK rfl ?_
   exact o_nil ⟨⟨rfl,rfl,rfl,trivial⟩,rfl⟩
  subst hw
  refine wp_seq (seq_cut [(0,Vp fb),(1,Vi x),(5,Vi xs.length)] (fun w'=>Hold base w0 w' (findX 120 fb [natV nb] mb vf :: oN vf xs :: rest) ∧ MapN w' mb (xs.length + 1) (plf (s.num (cd nb x)))) tab_ok hS ?_ (fun a w6 hS hw=>?_))
  ·repeat first|refine zP rfl ?_|refine zK rfl ?_
   refine zL rfl (h.r.xcell (i:=0) rfl (j:=1) rfl) ?_
   repeat first|refine zP rfl ?_|refine zK rfl ?_
   obtain ⟨w',g1,g2,g3⟩:=hm.put (n:=xs.length) (by unfold maxLen; omega) (x:=x) (v:=xs.length) (by omega) (by omega)
   refine o_step0 rfl rfl ?_
   refine ⟨w',g1,?_⟩
   refine o_nil ⟨⟨rfl,rfl,rfl,trivial⟩,h.map hm hb g3,?_⟩
   rw [k3,hxl]; exact g2
  obtain ⟨h,hm⟩:=hw
  refine seq_cutx (α:=Value) (fun _=>[(5,Vi xs.length)]) (fun vf' w'=>Hold base w0 w' (findX 120 fb [natV nb] mb vf' :: oN vf' (xs ++ [x]) :: rest) ∧ MapN w' mb (xs.length + 1) (plf (s.num (cd nb x)))) tab_ok hS ?_ (fun vf' a w7 hS hw=>?_)
  ·obtain ⟨gw,cw,rfl,hcw⟩:=h.r.any (i:=1) rfl
   repeat first|refine zP rfl ?_|refine zK rfl ?_
   refine zL rfl (h.r.xcell (i:=0) rfl (j:=2) rfl) ?_
   repeat first|refine zP rfl ?_|refine zK rfl ?_
   refine o_step rfl rfl rfl ?_
   refine Exists.intro [(0,Vi ((x : Int)))] (Exists.intro #[Vi ((x : Int))] (And.intro (And.intro rfl rfl) (And.intro (by decide) (And.intro (fillI _ _ _) ?_))))
   have h1:=h.alloc (.cells #[Vi x] 3)
   have hm1:=hm.below (below_alloc w6 (.cells #[Vi x] 3))
   have ask : AppAsk (w6.alloc (.cells #[Vi x] 3)) ⟨3,.int .i64,1,8,Vi 0⟩ (.slice gw xs.length cw) xs.length (nats xs) (Vs w6.heap.size 1 1) 1 [Vi x] base:=
    ⟨h1.r.1 1 _ rfl,.inr ⟨_,0,_,rfl,cell_alloc_new rfl,trivial⟩,rfl,(by simp [Value.oneCell']),(by omega),(by show (xs.length + 1) * 8 ≤ _; omega),h1.s⟩
   refine o_step rfl rfl rfl ?_
   refine Exists.intro _ (Exists.intro _ (Exists.intro _ (Exists.intro _ (Exists.intro _ (And.intro (ask) (And.intro (fun _ h=>h.symm) (And.intro (by decide) ?_)))))))
   rintro v' w2 hown hgr - hat
   have h2:=h1.appN (i:=1) rfl hown hgr hat
   have hm2:=hm1.row h1.r (i:=1) rfl hgr
   obtain ⟨g2,n2,c2,hv⟩:=own_form hown
   subst hv
   repeat first|refine zP rfl ?_|refine zK rfl ?_
   refine zS rfl rfl (h2.r.xcell (i:=0) rfl (j:=2) rfl) (h2.r.free (i:=0) rfl 2) ?_
   exact o_nil ⟨_,⟨rfl,trivial⟩,h2.xstore (i:=0) rfl 2 (.slice g2 n2 c2),hm2.store h2.r (i:=0) rfl⟩
  obtain ⟨h,hm⟩:=hw
  refine wp_seq (seq_cut [(4,Vi xs.length)] (· = w7) tab_ok hS ?_ (fun a w8 hS hw=>?_))
  ·repeat first|refine zP rfl ?_|refine zK rfl ?_
   exact o_nil ⟨⟨rfl,trivial⟩,rfl⟩
  subst hw
  refine wp_ret ?_
  repeat (first | refine then_ret ?_ | refine block_ret ?_)
  refine ret1 hS rfl rfl ⟨by rw [k2,hxl],mb,vf',xs ++ [x],h,?_,?_,hb⟩
  ·rw [k1,hrs]; simp
  ·rw [List.length_append]; exact hm
 ·obtain ⟨k1,k2⟩:=num_known (nb:=nb) hI hx hne h0
  have hps : (plf s x).isSome = true:=by rw [plf,if_pos (by omega)]; rfl
  rw [hps] at hS
  refine cond hS rfl (fun hT=>by cases hT) (fun hF=>wp_skip ?_)
  refine wp_seq (seq_cut [(4,Vi (((plf s x).getD 0 : Nat) : Int))] (· = w4) tab_ok hS ?_ (fun a w5 hS hw=>?_))
  ·repeat first|refine zP rfl ?_|refine zK rfl ?_
   exact o_nil ⟨⟨rfl,trivial⟩,rfl⟩
  subst hw
  rw [k1,k2]
  refine wp_ret ?_
  repeat (first | refine then_ret ?_ | refine block_ret ?_)
  exact ret1 hS rfl rfl ⟨rfl,mb,vf,xs,h,hrs,hm,hb⟩
end
end Go.Proofs.YthcoppfiahnpoaaGreat
namespace Go.Proofs.YthcoppfiahnpoaaGreat
open Go Sym
theorem en_searchI : enters Tryz.prog 82 = true:=by kernel_rfl
theorem row_in {n : Nat} {next : List (List Int)} {r : Int} {L : Nat} {s : FS} (h : FIn n s) (ht : ∀ c,c < L → -1 ≤ tgtM next r c ∧ tgtM next r c < n) : ∀ c,c ≤ L → FIn n (FS.row next r c s) ∧ FLe n s (FS.row next r c s)
 | 0,_=>⟨h,FLe.refl _ _⟩
 | c + 1,hc=>by
   obtain ⟨h1,h2⟩:=row_in h ht c (by omega)
   rw [FS.row_succ]
   obtain ⟨h3,h4⟩:=h1.step (next:=next) (r:=r) (c:=c) (ht c (by omega)).2
   exact ⟨h3,h2.trans h4⟩
theorem row_le {n : Nat} {next : List (List Int)} {r : Int} {L : Nat} {s : FS} (h : FIn n s) (ht : ∀ c,c < L → -1 ≤ tgtM next r c ∧ tgtM next r c < n) (c : Nat) : ∀ k,c + k ≤ L → FLe n (FS.row next r c s) (FS.row next r (c + k) s)
 | 0,_=>FLe.refl _ _
 | k + 1,hc=>by
   have h1:=row_le h ht c k (by omega)
   obtain ⟨h2,-⟩:=row_in h ht (c + k) (by omega)
   obtain ⟨-,h4⟩:=h2.step (next:=next) (r:=r) (c:=c + k) (ht (c + k) (by omega)).2
   rw [← Nat.add_assoc,FS.row_succ]
   exact h1.trans h4
theorem num_stays {n : Nat} {next : List (List Int)} {r : Int} {L c : Nat} {s F : FS} (h : FIn n s) (ht : ∀ c,c < L → -1 ≤ tgtM next r c ∧ tgtM next r c < n) (hc : c < L) (hF : FLe n (FS.row next r L s) F) :
  plcM ((FS.row next r c s).num (tgtM next r c)).place (tgtM next r c) = plcM F.place (tgtM next r c):=by
 by_cases h0 : tgtM next r c < 0
 ·rw [plcM_neg h0,plcM_neg h0]
 ·obtain ⟨h1,-⟩:=row_in h ht c (by omega)
  obtain ⟨j,e1,-⟩:=h1.num_place (by omega) (ht c hc).2
  have h2:=(row_le h ht (c + 1) (L - (c + 1)) (by omega))
  rw [show c + 1 + (L - (c + 1)) = L by omega] at h2
  have h3:=(h2.trans hF).place (tgtM next r c).toNat (by have:=(ht c hc).2; omega)
  rw [FS.row_succ,FS.step_num] at h3
  rw [plcM,plcM,if_pos (by omega),if_pos (by omega),h3 (by omega)]
def rowZ (L c : Nat) (v : Nat → Int) : List Int:=(List.range L).map fun d=>if d < c then v d else 0
theorem rowZ_len (L c : Nat) (v : Nat → Int) : (rowZ L c v).length = L:=by simp [rowZ]
theorem rowZ_0 (L : Nat) (v : Nat → Int) : List.replicate L 0 = rowZ L 0 v:=by
 refine List.ext_getElem (by simp [rowZ]) fun j h1 h2=>by simp [rowZ]
theorem rowZ_L (L : Nat) (v : Nat → Int) : rowZ L L v = (List.range L).map v:=by
 refine List.ext_getElem (by simp [rowZ]) fun j h1 h2=>?_
 have : j < L:=by simpa [rowZ] using h1
 simp [rowZ,this]
theorem rowZ_set {L c : Nat} (v : Nat → Int) (hc : c < L) : (rowZ L c v).set c (v c) = rowZ L (c + 1) v:=by
 refine List.ext_getElem (by simp [rowZ]) fun j h1 h2=>?_
 have hj : j < L:=by simpa [rowZ] using h1
 rw [List.getElem_set]
 by_cases e : c = j
 ·subst e; simp [rowZ]
 ·rw [if_neg e]
  have : (j < c) = (j < c + 1):=by simp; omega
  simp [rowZ,this]
def nextR (vp : Value) (vs : List Value) (Ls : List (List Int)) : List Ow:=⟨vp,35,1,vs.length,vs⟩ :: List.zipWith (fun v l=>oI v l) vs Ls
theorem nextR_snoc {vp' v : Value} {vs : List Value} {Ls : List (List Int)} {l : List Int} (hl : vs.length = Ls.length) : nextR vp' (vs ++ [v]) (Ls ++ [l]) = ⟨vp',35,1,vs.length + 1,vs ++ [v]⟩ :: (List.zipWith (fun v l=>oI v l) vs Ls ++ [oI v l]):=by
 unfold nextR
 rw [List.zipWith_append hl]
 simp
section
variable {base : Nat} {w0 w w' : World} {l rest : List Ow}
theorem Hold.makeI (h : Hold base w0 w l) {n : Nat} (hn : n ≤ 9223372036854775807) : Hold base w0 (w.alloc (.cells (madeCells #[Vi 0] n) 3)) (oI (Vs w.heap.size n n) (List.replicate n 0) :: l):=by
 have h1:=h.lit (e:=3) (s:=1) (n:=n) (madeCells #[Vi 0] n) (by simp [madeCells]) hn
 rw [toList_madeCells_one] at h1
 simpa [oI,ints] using h1
theorem Hold.storeI (h : Hold base w0 w l) {i g n c : Nat} {xs : List Int} (hi : l[i]? = some (oI (Vs g n c) xs)) (j : Nat) (x : Int) : Hold base w0 (w.setCell ⟨g,0 + j,none⟩ (Vi x)) (l.set i (oI (Vs g n c) (xs.set j x))):=by
 have h1:=h.store hi j (Vi x)
 have e : (⟨Vs g n c,3,1,xs.length,(ints xs).set j (Vi x)⟩ : Ow) = oI (Vs g n c) (xs.set j x):=by
  rw [oI,List.length_set,show ints (xs.set j x) = (ints xs).set j (Vi x) from List.map_set ..]
 rwa [e] at h1
theorem FindN.below {fb nb : Nat} {s : FS} (h : FindN base w0 w fb nb s rest) (hb : RowKit.Below w.heap.size w w') : FindN base w0 w' fb nb s rest:=by
 obtain ⟨mb,vf,xs,h1,h2,h3,h4⟩:=h
 exact ⟨mb,vf,xs,h1.below hb,h2,h3.below hb,h4⟩
set_option maxHeartbeats 1000000 in
theorem searchI_any {n fb nb x0 L lim S : Nat} {caps : Array Value} {next : List (List Int)} {F : FS} (h : FindN base w0 w fb nb (FS.none n) rest) (hn : n ≤ 100000) (hnl : next.length = n) (hx0 : x0 < n) (hL : L ≤ 100000) (hlim : n ≤ lim) (hlim2 : lim ≤ 1000000)
  (hr : ∀ r : Int,0 ≤ r → r < n → ∀ c,c < L → -1 ≤ tgtM next r c ∧ tgtM next r c < n) (hen : enters Tryz.prog S = true)
  (hstep : ∀ (y c : Nat) (w : World),y < n → c < L → Hold base w0 w rest → Calls Tryz.prog S ([Vi y,Vi c] ++ caps.toList).toArray w fun e w'=>∃ z : Nat,z < n ∧ e = .returned (Vi z) ∧ tgtM next (y : Int) c = cd nb z ∧ RowKit.Below w.heap.size w w')
  (hF : foundM (cd nb x0) next L = F) :
  Calls Tryz.prog 82 #[Vp fb,Vi x0,Vi L,Vi lim,.func (.func S) #[] caps] w fun e w'=>∃ (vn : Value) (vs : List Value),e = .returned (.tuple #[vn,.bool true]) ∧ vs.length = F.rows.length ∧ FIn n F ∧ FindN base w0 w' fb nb F (nextR vn vs (F.rows.map (renumM F.place next L)) ++ rest):=by
 refine Sym.enter (args:=[Vp fb,Vi x0,Vi L,Vi lim,.func (.func S) #[] caps]) Tryz.func82 rfl rfl rfl (fun a0 hS0=>?_)
 refine wp_seq (seq_cut [(0,Vp fb),(2,Vi L),(3,Vi lim),(4,.func (.func S) #[] caps),(1,Vi x0),(10,.slice none 0 0)] (· = w) tab_ok hS0 ?_ (fun a w1 hS hw=>?_))
 ·repeat first|refine zP rfl ?_|refine zK rfl ?_
  exact o_nil ⟨⟨rfl,rfl,rfl,rfl,rfl,rfl,trivial⟩,rfl⟩
 subst hw
 have hc0:=cd_lt (nb:=nb) hx0
 have hI0:=(FIn.none n).num hc0.2 hc0.1
 refine wp_scope_straight (wp_seq (seq_cut [(0,Vp fb),(2,Vi L),(3,Vi lim),(4,.func (.func S) #[] caps),(10,.slice none 0 0)] (fun w'=>FindN base w0 w' fb nb ((FS.none n).num (cd nb x0)) rest) tab_ok hS ?_ (fun a w2 hS h=>?_)))
 ·repeat first|refine zP rfl ?_|refine zK rfl ?_
  refine zF rfl (en_numberI) (numberI_any h (FIn.none n) hn hx0) ?_
  rintro e w2 ⟨rfl,h2⟩
  refine ⟨_,rfl,?_⟩
  repeat first|refine zP rfl ?_|refine zK rfl ?_
  exact o_nil ⟨⟨rfl,rfl,rfl,rfl,rfl,trivial⟩,h2⟩
 refine wp_seq (wp_label ?_)
 refine wp_seq (wp_seq (seq_cut [(0,Vp fb),(2,Vi L),(3,Vi lim),(4,.func (.func S) #[] caps),(10,.slice none 0 0),(12,Vi (0 : Nat))] (· = w2) tab_ok hS ?_ (fun a w3 hS hw=>?_)))
 ·repeat first|refine zP rfl ?_|refine zK rfl ?_
  exact o_nil ⟨⟨rfl,rfl,rfl,rfl,rfl,rfl,trivial⟩,rfl⟩
 subst hw
 obtain ⟨mb,vf,xs,h,hrs,hm,hb⟩:=h
 have hne:=(h.nil 35 1).perm (List.Perm.trans (.swap _ _ _) (.cons _ (.swap _ _ _)))
 refine wp_block (loop0 hS (fun g E w'=>∃ (i : Nat) (s : FS) (vn : Value) (vs : List Value),E = [(0,Vp fb),(2,Vi L),(3,Vi lim),(4,.func (.func S) #[] caps),(10,vn),(12,Vi i)] ∧ FIn n s ∧ i ≤ s.rows.length ∧ foundGo next L g i s = F ∧ n ≤ g + i ∧ vs.length = i ∧ FindN base w0 w' fb nb s (nextR vn vs ((s.rows.take i).map (renumM F.place next L)) ++ rest)) n
  ⟨0,_,_,[],rfl,hI0.1,Nat.zero_le _,by rw [← hF,foundM_go (by rw [hnl]; exact hc0.2) hc0.1,hnl],by omega,rfl,mb,vf,xs,hne,hrs,hm,hb⟩ ?_)
 clear hS h hne hrs hm hb
 rintro g E w4 a ⟨i,s,vn,vs,rfl,hI,hi,hgo,hg,hvs,h⟩ hS
 have hcap:=hI.ok.cap
 refine wp_seq (wp_seq (seq_cut [(0,Vp fb),(2,Vi L),(3,Vi lim),(4,.func (.func S) #[] caps),(10,vn),(12,Vi i),(24,.bool (decide (i < s.rows.length)))] (· = w4) tab_ok hS ?_ (fun a w5 hS hw=>?_)))
 ·obtain ⟨mb,vf,xs,h,hrs,hm,hb⟩:=h
  have hxl : s.rows.length = xs.length:=by rw [hrs,List.length_map]
  obtain ⟨gf,cf,rfl,-,-⟩:=h.r.any (i:=1) rfl
  rw [hxl]
  repeat first|refine zP rfl ?_|refine zK rfl ?_
  refine zL rfl (h.r.xcell (i:=0) rfl (j:=2) rfl) ?_
  repeat first|refine zP rfl ?_|refine zK rfl ?_
  refine zC rfl (lt_nat _ _) ?_
  repeat first|refine zP rfl ?_|refine zK rfl ?_
  exact o_nil ⟨⟨rfl,rfl,rfl,rfl,rfl,rfl,rfl,trivial⟩,rfl⟩
 subst hw
 refine cond hS rfl (fun hT=>wp_skip ?_) (fun hF'=>?_)
 rotate_left
 ·have hii : s.rows.length ≤ i:=by have:=of_decide_eq_false hF'; omega
  have hsF : s = F:=by rw [← hgo,foundGo_end hii]
  have hie : i = s.rows.length:=by omega
  rw [hie,List.take_length] at h
  subst hsF
  refine wp_exit ?_
  repeat (first | refine then_exit ?_ | refine block_exit ?_ | refine block_other rfl ?_)
  refine wp_seq (quiet_cut [(10,vn),(11,.bool true)] tab_ok mixed (by kernel_rfl) hS ?_ (fun a w6 hS hw=>?_))
  ·obtain ⟨mb,vf,xs,h,hrs,hm,hb⟩:=h
   have hxl : s.rows.length = xs.length:=by rw [hrs,List.length_map]
   obtain ⟨gf,cf,rfl,-,-⟩:=h.r.any (i:=1) rfl
   repeat first|refine qP rfl ?_|refine qK rfl ?_
   refine qL rfl (h.r.xcell (i:=0) rfl (j:=2) rfl) ?_
   repeat first|refine qP rfl ?_|refine qK rfl ?_
   refine qC rfl (decide_eq_true (show (xs.length : Int) ≤ (lim : Int) by omega)) ?_
   repeat first|refine qP rfl ?_|refine qK rfl ?_
   exact q_nil ⟨rfl,rfl,trivial⟩
  refine wp_ret ?_
  repeat (first | refine then_ret ?_ | refine block_ret ?_)
  exact noGotoR (ret2 hS rfl rfl rfl ⟨vn,vs,rfl,by omega,hI,h.below hw⟩)
 have hii : i < s.rows.length:=of_decide_eq_true hT
 obtain ⟨g,rfl⟩ : ∃ g',g = g' + 1:=⟨g - 1,by omega⟩
 rw [foundGo_next hii] at hgo
 obtain ⟨r,hre⟩ : ∃ r,r = s.rows.getD i 0:=⟨_,rfl⟩
 have hri : s.rows[i] = r:=by rw [hre]; simp [List.getD_eq_getElem?_getD,hii]
 rw [← hre] at hgo
 obtain ⟨hr0,hrn,-⟩:=hI.ok.r r (by rw [← hri]; exact List.getElem_mem hii)
 have hrt:=hr r hr0 hrn
 obtain ⟨hIL,hLL⟩:=row_in hI hrt L (Nat.le_refl _)
 have hrl : s.rows.length ≤ (FS.row next r L s).rows.length:=by
  have:=hLL.rows (s.rows.length - 1) s.rows[s.rows.length - 1] (by simp)
  have:=(List.getElem?_eq_some_iff.1 this).1
  omega
 have hFl : FLe n (FS.row next r L s) F:=by
  rw [← hgo]
  exact (found_scan (L:=L) hr g (i + 1) _ hIL (by omega) (by omega)).2.1
 have hva : ∀ c,c < L → plcM ((FS.row next r c s).num (tgtM next r c)).place (tgtM next r c) = plcM F.place (tgtM next r c):=fun c hc=>num_stays hI hrt hc hFl
 obtain ⟨v,hve⟩ : ∃ v : Nat → Int,v = fun c=>plcM F.place (tgtM next r c):=⟨_,rfl⟩
 obtain ⟨NR,hNR⟩ : ∃ NR,NR = nextR vn vs ((s.rows.take i).map (renumM F.place next L)) ++ rest:=⟨_,rfl⟩
 rw [← hNR] at h
 have hNRr : ∀ {w'},Hold base w0 w' NR → Hold base w0 w' rest:=fun h=>by rw [hNR] at h; exact h.drop
 refine wp_seq (wp_block (wp_seq (seq_cutx (α:=Nat) (fun gc=>[(0,Vp fb),(2,Vi L),(3,Vi lim),(4,.func (.func S) #[] caps),(10,vn),(12,Vi i),(13,Vs gc L L)]) (fun gc w'=>FindN base w0 w' fb nb s (oI (Vs gc L L) (rowZ L 0 v) :: NR)) tab_ok hS ?_ (fun gc a w6 hS h=>?_))))
 ·obtain ⟨mb,vf,xs,h,hrs,hm,hb⟩:=h
  have h2:=(h.makeI (n:=L) (by omega)).perm (List.Perm.trans (.swap _ _ _) (.cons _ (.swap _ _ _)))
  rw [rowZ_0 L v] at h2
  repeat first|refine zP rfl ?_|refine zK rfl ?_
  refine zM (L) rfl rfl rfl rfl rfl ((by show 8 * _ ≤ _; omega)) ((by omega)) ?_
  repeat first|refine zP rfl ?_|refine zK rfl ?_
  exact o_nil ⟨_,⟨rfl,rfl,rfl,rfl,rfl,rfl,rfl,trivial⟩,mb,vf,xs,h2,hrs,hm.below (below_alloc _ _),hb⟩
 refine wp_seq (wp_seq (seq_cut [(0,Vp fb),(2,Vi L),(3,Vi lim),(4,.func (.func S) #[] caps),(10,vn),(12,Vi i),(13,Vs gc L L),(29,Vi L),(30,Vi (0 : Nat))] (· = w6) tab_ok hS ?_ (fun a w7 hS hw=>?_)))
 ·repeat first|refine zP rfl ?_|refine zK rfl ?_
  exact o_nil ⟨⟨rfl,rfl,rfl,rfl,rfl,rfl,rfl,rfl,rfl,trivial⟩,rfl⟩
 subst hw
 refine wp_block (loop0 hS (fun γ E w'=>∃ c : Nat,c ≤ L ∧ γ = L - c ∧ E = [(0,Vp fb),(2,Vi L),(3,Vi lim),(4,.func (.func S) #[] caps),(10,vn),(12,Vi i),(13,Vs gc L L),(29,Vi L),(30,Vi c)] ∧ FindN base w0 w' fb nb (FS.row next r c s) (oI (Vs gc L L) (rowZ L c v) :: NR)) L ⟨0,by omega,by omega,rfl,h⟩ ?_)
 clear hS h
 rintro γ E w8 a ⟨c,hc,rfl,rfl,h⟩ hS
 refine wp_seq (seq_cut [(0,Vp fb),(2,Vi L),(3,Vi lim),(4,.func (.func S) #[] caps),(10,vn),(12,Vi i),(13,Vs gc L L),(29,Vi L),(30,Vi c),(31,.bool (decide (c < L)))] (· = w8) tab_ok hS ?_ (fun a w9 hS hw=>?_))
 ·repeat first|refine zP rfl ?_|refine zK rfl ?_
  refine zC rfl (lt_nat _ _) ?_
  repeat first|refine zP rfl ?_|refine zK rfl ?_
  exact o_nil ⟨⟨rfl,rfl,rfl,rfl,rfl,rfl,rfl,rfl,rfl,rfl,trivial⟩,rfl⟩
 subst hw
 refine wp_seq (cond hS rfl (fun hT=>wp_skip ?_) (fun hF'=>?_))
 rotate_left
 ·have hcc : L = c:=by have:=of_decide_eq_false hF'; omega
  subst hcc
  refine wp_exit ?_
  repeat (first | refine then_exit ?_ | refine block_exit ?_ | refine block_other rfl ?_)
  rw [rowZ_L,hve] at h
  refine seq_cutx (α:=Value) (fun vn'=>[(0,Vp fb),(2,Vi L),(3,Vi lim),(4,.func (.func S) #[] caps),(10,vn'),(12,Vi i)]) (fun vn' w'=>FindN base w0 w' fb nb (FS.row next r L s) (nextR vn' (vs ++ [Vs gc L L]) ((s.rows.take (i + 1)).map (renumM F.place next L)) ++ rest)) tab_ok hS ?_ (fun vn' a w10 hS h=>?_)
  ·obtain ⟨mb,vf,xs,h,hrs,hm,hb⟩:=h
   subst hNR
   obtain ⟨gvp,cvp,rfl,-⟩:=h.r.any (i:=3) (v:=vn) (e:=35) (s:=1) (n:=vs.length) (xs:=vs) rfl
   repeat first|refine zP rfl ?_|refine zK rfl ?_
   refine o_step rfl rfl rfl ?_
   refine Exists.intro [(0,Vs gc L L)] (Exists.intro #[Vs gc L L] (And.intro (And.intro rfl rfl) (And.intro (by decide) (And.intro (fill1 _ _ _ _) ?_))))
   have hal:=below_alloc w9 (.cells #[Vs gc L L] 35)
   have h3:=h.alloc (.cells #[Vs gc L L] 35)
   have hm4:=hm.below hal
   have ask : AppAsk (w9.alloc (.cells #[Vs gc L L] 35)) ⟨35,.slice 3,1,24,.slice none 0 0⟩ (.slice gvp vs.length cvp) vs.length vs (Vs w9.heap.size 1 1) 1 [Vs gc L L] base:=
    ⟨h3.r.1 3 _ rfl,.inr ⟨_,0,_,rfl,cell_alloc_new rfl,trivial⟩,rfl,(by simp [Value.oneCell']),(by omega),(by show (vs.length + 1) * 24 ≤ _; omega),h3.s⟩
   refine o_step rfl rfl rfl ?_
   refine Exists.intro _ (Exists.intro _ (Exists.intro _ (Exists.intro _ (Exists.intro _ (And.intro (ask) (And.intro (fun _ h=>h.symm) (And.intro (by decide) ?_)))))))
   rintro v' w16 hown2 hgr - hat
   have h4:=h3.app (i:=3) rfl hown2 hgr hat
   have hm5:=hm4.row h3.r (i:=3) rfl hgr
   repeat first|refine zP rfl ?_|refine zK rfl ?_
   refine o_nil ⟨v',⟨rfl,rfl,rfl,rfl,rfl,rfl,trivial⟩,mb,vf,xs,?_,hrs,hm5,hb⟩
   have hlen : vs.length = ((s.rows.take i).map (renumM F.place next L)).length:=by simp; omega
   rw [List.take_succ_eq_append_getElem hii,List.map_append,List.map_singleton,nextR_snoc hlen,hri]
   refine h4.perm ?_
   obtain ⟨Z,hZ⟩ : ∃ Z,Z = List.zipWith (fun v l=>oI v l) vs ((s.rows.take i).map (renumM F.place next L)):=⟨_,rfl⟩
   show List.Perm (_ :: _ :: oI (Vs gc L L) ((List.range L).map fun d=>plcM F.place (tgtM next r d)) :: _ :: (List.zipWith (fun v l=>oI v l) vs ((s.rows.take i).map (renumM F.place next L)) ++ rest)) (_ :: _ :: _ :: ((List.zipWith (fun v l=>oI v l) vs ((s.rows.take i).map (renumM F.place next L)) ++ [oI (Vs gc L L) (renumM F.place next L r)]) ++ rest))
   rw [← hZ]
   refine .cons _ (.cons _ ((List.Perm.swap _ _ _).trans (.cons _ ?_)))
   rw [List.append_assoc]
   exact (List.perm_middle (l₁:=Z) (l₂:=rest)).symm
  refine block_normal ?_
  refine seq_cut [(0,Vp fb),(2,Vi L),(3,Vi lim),(4,.func (.func S) #[] caps),(10,vn'),(12,Vi (i + 1 : Nat))] (· = w10) tab_ok hS ?_ (fun a w11 hS hw=>?_)
  ·repeat first|refine zP rfl ?_|refine zK rfl ?_
   refine zN rfl (i64_add i 1 (by omega)) ?_
   repeat first|refine zP rfl ?_|refine zK rfl ?_
   exact o_nil ⟨⟨rfl,rfl,rfl,rfl,rfl,rfl,trivial⟩,rfl⟩
  subst hw
  refine ⟨g,_,by omega,⟨i + 1,FS.row next r L s,vn',vs ++ [Vs gc L L],rfl,hIL,by omega,hgo,by omega,by simp [hvs],?_⟩,hS⟩
  have e : (FS.row next r L s).rows.take (i + 1) = s.rows.take (i + 1):=by
   refine List.ext_getElem (by simp; omega) fun j h1 h2=>?_
   have hj : j < s.rows.length:=by simp at h2; omega
   have:=hLL.rows j s.rows[j] (by simp [hj])
   simp only [List.getElem_take]
   exact (List.getElem?_eq_some_iff.1 this).2
  rw [e]; exact h
 have hcc : c < L:=of_decide_eq_true hT
 obtain ⟨hIc,-⟩:=row_in hI hrt c (by omega)
 obtain ⟨hIc1,hLc⟩:=row_in hI hrt (c + 1) (by omega)
 refine wp_seq (wp_block (wp_seq (seq_cut [(0,Vp fb),(2,Vi L),(3,Vi lim),(4,.func (.func S) #[] caps),(10,vn),(12,Vi i),(13,Vs gc L L),(29,Vi L),(30,Vi c),(14,Vi c)] (· = w9) tab_ok hS ?_ (fun a w10 hS hw=>?_))))
 ·repeat first|refine zP rfl ?_|refine zK rfl ?_
  exact o_nil ⟨⟨rfl,rfl,rfl,rfl,rfl,rfl,rfl,rfl,rfl,rfl,trivial⟩,rfl⟩
 subst hw
 refine wp_seq (seq_cut [(0,Vp fb),(2,Vi L),(3,Vi lim),(4,.func (.func S) #[] caps),(10,vn),(12,Vi i),(13,Vs gc L L),(29,Vi L),(30,Vi c)] (fun w'=>FindN base w0 w' fb nb (FS.row next r (c + 1) s) (oI (Vs gc L L) (rowZ L (c + 1) v) :: NR)) tab_ok hS ?_ (fun a w11 hS h=>?_))
 ·obtain ⟨mb,vf,xs,h,hrs,hm,hb⟩:=h
  obtain ⟨-,hLc0⟩:=row_in hI hrt c (by omega)
  have hxl : (FS.row next r c s).rows.length = xs.length:=by rw [hrs,List.length_map]
  have hir:=hLc0.rows i r (by rw [← hri]; simp [hii])
  obtain ⟨hi2,hir2⟩:=List.getElem?_eq_some_iff.1 hir
  have hix : i < xs.length:=by omega
  have hyr : ((gt xs i : Nat) : Int) = r:=by
   rw [← hir2]
   simp only [hrs,List.getElem_map]
   simp [gt,List.getD_eq_getElem?_getD,hix]
  obtain ⟨y,hye⟩ : ∃ y,y = gt xs i:=⟨_,rfl⟩
  rw [← hye] at hyr
  have hyn : y < n:=by omega
  obtain ⟨gf,cf,rfl,-⟩:=h.r.nilOr (i:=1) rfl (by omega)
  have hcell:=h.r.cN (i:=1) rfl hix
  rw [← hye] at hcell
  repeat first|refine zP rfl ?_|refine zK rfl ?_
  refine zL rfl (h.r.xcell (i:=0) rfl (j:=2) rfl) ?_
  repeat first|refine zP rfl ?_|refine zK rfl ?_
  refine zI rfl (rfl) (hix) ?_
  refine zL rfl (hcell) ?_
  repeat first|refine zP rfl ?_|refine zK rfl ?_
  refine zF rfl (hen) (hstep y c w10 hyn hcc (hNRr h.tail.tail.tail)) ?_
  rintro e w11 ⟨z,hzn,rfl,hzt,hw⟩
  refine ⟨_,rfl,?_⟩
  rw [hyr] at hzt
  have hfn : FindN base w0 w11 fb nb (FS.row next r c s) (oI (Vs gc L L) (rowZ L c v) :: NR):=⟨mb,_,xs,h.below hw,hrs,hm.below hw,hb⟩
  repeat first|refine zP rfl ?_|refine zK rfl ?_
  refine zF rfl (en_numberI) (numberI_any hfn hIc hn hzn) ?_
  rintro e w12 ⟨rfl,h12⟩
  refine ⟨_,rfl,?_⟩
  rw [← hzt,hva c hcc]
  rw [← hzt,← FS.step_num,← FS.row_succ] at h12
  obtain ⟨mb,vf,xs,h,hrs,hm,hb⟩:=h12
  have hzl : c < (rowZ L c v).length:=by rw [rowZ_len]; exact hcc
  have hst:=h.storeI (i:=2) rfl c (plcM F.place (tgtM next r c))
  rw [show (rowZ L c v).set c (plcM F.place (tgtM next r c)) = rowZ L (c + 1) v by rw [← rowZ_set v hcc,hve]] at hst
  repeat first|refine zP rfl ?_|refine zK rfl ?_
  refine zI rfl (rfl) (hcc) ?_
  refine zS rfl rfl (h.r.cellI (i:=2) rfl hzl) (h.r.free (i:=2) rfl _) ?_
  exact o_nil ⟨⟨rfl,rfl,rfl,rfl,rfl,rfl,rfl,rfl,rfl,trivial⟩,mb,vf,xs,hst,hrs,hm.store h.r (i:=2) rfl,hb⟩
 refine wp_seq (seq_cut [(0,Vp fb),(2,Vi L),(3,Vi lim),(4,.func (.func S) #[] caps),(10,vn),(12,Vi i),(13,Vs gc L L),(29,Vi L),(30,Vi c),(54,.bool false)] (· = w11) tab_ok hS ?_ (fun a w12 hS hw=>?_))
 ·obtain ⟨mb,vf,xs,h,hrs,hm,hb⟩:=h
  have hxl : (FS.row next r (c + 1) s).rows.length = xs.length:=by rw [hrs,List.length_map]
  have:=hIc1.ok.cap
  obtain ⟨gf,cf,rfl,-,-⟩:=h.r.any (i:=1) rfl
  repeat first|refine zP rfl ?_|refine zK rfl ?_
  refine zL rfl (h.r.xcell (i:=0) rfl (j:=2) rfl) ?_
  repeat first|refine zP rfl ?_|refine zK rfl ?_
  refine zC rfl (decide_eq_false (show ¬ ((lim : Int) < (xs.length : Int)) by omega)) ?_
  repeat first|refine zP rfl ?_|refine zK rfl ?_
  exact o_nil ⟨⟨rfl,rfl,rfl,rfl,rfl,rfl,rfl,rfl,rfl,rfl,trivial⟩,rfl⟩
 subst hw
 refine cond hS rfl (fun hT=>by cases hT) (fun hF'=>wp_skip ?_)
 refine block_normal ?_
 refine seq_cut [(0,Vp fb),(2,Vi L),(3,Vi lim),(4,.func (.func S) #[] caps),(10,vn),(12,Vi i),(13,Vs gc L L),(29,Vi L),(30,Vi (c + 1 : Nat))] (· = w12) tab_ok hS ?_ (fun a w13 hS hw=>?_)
 ·repeat first|refine zP rfl ?_|refine zK rfl ?_
  refine zN rfl (i64_add c 1 (by omega)) ?_
  repeat first|refine zP rfl ?_|refine zK rfl ?_
  exact o_nil ⟨⟨rfl,rfl,rfl,rfl,rfl,rfl,rfl,rfl,rfl,trivial⟩,rfl⟩
 subst hw
 exact ⟨L - (c + 1),_,by omega,⟨c + 1,by omega,rfl,rfl,h⟩,hS⟩
end
end Go.Proofs.YthcoppfiahnpoaaGreat
namespace Go.Proofs.YthcoppfiahnpoaaGreat
open Go Sym
theorem en_buildI : enters Tryz.prog 57 = true:=by kernel_rfl
theorem foundM_found2 {L : Nat} {s s0 : Int} {next : List (List Int)} {fin : List Bool} (h : Shape (L : Int) s0 next fin) (h1 : -1 ≤ s) (h2 : s < next.length) : Found s next L (foundM s next L):=by
 by_cases h0 : s < 0
 ·unfold foundM
  rw [if_pos h0]
  exact ⟨FIn.none next.length,fun h=>by omega,fun _=>rfl,fun j hj=>by simp at hj⟩
 ·have:=foundM_found (L:=(L : Int)) (s:=s) (next:=next) (fin:=fin) ⟨h.L0,h.fin,h1,h2,fun _=>by omega,h.rows⟩
  rwa [Int.toNat_natCast] at this
theorem first_num {L : Nat} {s : Int} {next : List (List Int)} {F : FS} (h : Found s next L F) : F.num s = F ∧ plcM F.place s = if F.rows.length = 0 then -1 else 0:=by
 by_cases h0 : s < 0
 ·rw [h.none h0,FS.num,if_neg (by omega),plcM_neg h0]
  exact ⟨rfl,rfl⟩
 ·have h1:=(h.first (by omega)).1
  obtain ⟨h2,h3⟩:=List.getElem?_eq_some_iff.1 h1
  have h4:=h.inn.at' 0 h2
  rw [h3] at h4
  rw [FS.num,if_neg (by omega),plcM,if_pos (by omega),if_neg (by omega),h4]
  exact ⟨rfl,rfl⟩
theorem plcM_in {n : Nat} {F : FS} (h : FIn n F) {t : Int} (ht : t < n) : -1 ≤ plcM F.place t ∧ plcM F.place t ≤ n:=by
 unfold plcM
 split
 ·rename_i h0
  obtain ⟨k,rfl⟩:=Int.eq_ofNat_of_zero_le h0
  have hk : k < n:=by omega
  have h1:=h.low k hk
  simp only [Int.toNat_natCast]
  by_cases h2 : F.place.getD k 0 < 0
  ·omega
  ·obtain ⟨j,e1,e2⟩:=h.of k hk (by omega)
   have:=(List.getElem?_eq_some_iff.1 e2).1
   have:=h.ok.cap
   omega
 ·omega
section
variable {base : Nat} {w0 w w' : World} {l rest : List Ow}
theorem nextR_sl {vn : Value} {vs : List Value} {Ls : List (List Int)} (h : Hold base w0 w (nextR vn vs Ls ++ rest)) (hl : vs.length = Ls.length) (hI : ∀ l ∈ Ls,∀ x ∈ l,I64 x) : Sl w vn Ls PRow ∧ Ok vn:=
 sl_own (P:=PRow) (h.r.1 0 _ rfl) hl (fun i hi=>by
  have hi' : i < vs.length:=by omega
  refine ⟨vs[i],by simp [hi'],?_⟩
  have:=h.r.slI (i:=i + 1) (v:=vs[i]) (xs:=Ls[i]) (by
   unfold nextR
   rw [List.cons_append,List.getElem?_cons_succ,List.getElem?_append_left (by simp; omega)]
   simp [List.getElem?_zipWith,hi,hi']) (hI _ (List.getElem_mem hi))
  exact this)
theorem ma_rows {L s : Int} {vn ve : Value} {vs : List Value} {Ls : List (List Int)} {fin : List Bool} (h : Hold base w0 w (oB ve fin :: (nextR vn vs Ls ++ rest))) (hvs : vs.length = Ls.length) (hI : ∀ l ∈ Ls,∀ x ∈ l,I64 x) (hL : I64 L) (hs : I64 s) : Ma w L s Ls fin vn ve:=by
 have hn:=nextR_sl h.tail hvs hI
 have he:=sl_own (P:=PBool) (l:=fin) (h.r.1 0 _ rfl) rfl (fun i hi=>⟨_,by simp [hi],rfl⟩)
 exact ⟨hn.1,he.1,hL,hs,hn.2,he.2⟩
theorem x_cells4 (h : Rows base w l) {i T b : Nat} {v0 v1 v2 v3 : Value} (hi : l[i]? = some (oX T b 4 [v0,v1,v2,v3])) : ∀ j,j < 4 → (w.cell? ⟨b,0 + j,none⟩).isSome = true ∧ w.frozen? ⟨b,0 + j,none⟩ = false:=fun j hj=>by
 rw [Nat.zero_add]
 refine ⟨?_,h.free hi j⟩
 match j,hj with
 | 0,_=>rw [h.xcell hi (j:=0) rfl]; rfl
 | 1,_=>rw [h.xcell hi (j:=1) rfl]; rfl
 | 2,_=>rw [h.xcell hi (j:=2) rfl]; rfl
 | 3,_=>rw [h.xcell hi (j:=3) rfl]; rfl
theorem Hold.xput4 (h : Hold base w0 w l) {i T b : Nat} {v0 v1 v2 v3 : Value} (hi : l[i]? = some (oX T b 4 [v0,v1,v2,v3])) (u0 u1 u2 u3 : Value) : Hold base w0 (w.setCells b 0 [u0,u1,u2,u3]) (l.set i (oX T b 4 [u0,u1,u2,u3])):=by
 have hl:=(List.getElem?_eq_some_iff.1 hi).1
 have h1:=h.xstore hi 0 u0
 have h2:=h1.xstore (i:=i) (T:=T) (b:=b) (k:=4) (vs:=[v0,v1,v2,v3].set 0 u0) (by rw [List.getElem?_set_self hl]) 1 u1
 rw [List.set_set] at h2
 have h3:=h2.xstore (i:=i) (T:=T) (b:=b) (k:=4) (vs:=([v0,v1,v2,v3].set 0 u0).set 1 u1) (by rw [List.getElem?_set_self hl]) 2 u2
 rw [List.set_set] at h3
 have h4:=h3.xstore (i:=i) (T:=T) (b:=b) (k:=4) (vs:=(([v0,v1,v2,v3].set 0 u0).set 1 u1).set 2 u2) (by rw [List.getElem?_set_self hl]) 3 u3
 rw [List.set_set] at h4
 exact h4
set_option maxHeartbeats 2000000 in
theorem build_r9 {mi rc y k L S2 : Nat} {caps2 : Array Value} {st : Int} {vn ve vf : Value} {ends : List Bool} {b : Bool} {xl : Nat} {tl : List Ow}
  (h : Hold base w0 w (oB ve ends :: oX 25 mi 4 [Vi L,Vi st,vn,ve] :: tl)) (hl : ends.length ≤ 100000000) (hen : enters Tryz.prog S2 = true)
  (hend : ∀ w',RowKit.Below w.heap.size w w' → Calls Tryz.prog S2 ([Vi y] ++ caps2.toList).toArray w' fun e w2=>e = .returned (.bool b) ∧ RowKit.Below w'.heap.size w' w2)
  {Q : Exit → Act → World → Prop} {a : Act} {ops : Array Oper} {id : Nat} (hops : Sym.regionOf Tryz.f57.body 9 = some (id,ops))
  (hS : St Tryz.f57.ntmps a [(5,.func (.func S2) #[] caps2),(12,Vp rc),(17,Vp mi),(43,vf),(44,Vi xl),(45,Vi k),(19,Vi y)])
  (hq : ∀ ve' a' w',St Tryz.f57.ntmps a' [(5,.func (.func S2) #[] caps2),(12,Vp rc),(17,Vp mi),(43,vf),(44,Vi xl),(45,Vi k)] → Hold base w0 w' (oB ve' (ends ++ [b]) :: oX 25 mi 4 [Vi L,Vi st,vn,ve'] :: tl) → Q .normal a' w') : (Code.region id ops true).wp Tryz.prog Q a w:=by
 cases hops
 refine any_cutx (α:=Value) 6 (fun _=>[(5,.func (.func S2) #[] caps2),(12,Vp rc),(17,Vp mi),(43,vf),(44,Vi xl),(45,Vi k)]) (fun ve' w'=>Hold base w0 w' (oB ve' (ends ++ [b]) :: oX 25 mi 4 [Vi L,Vi st,vn,ve'] :: tl)) mixed hS ?_ hq
 obtain ⟨gs,cs,rfl,hc⟩:=h.r.any (i:=0) rfl
 have hy : RowKit.Below w.drew.heap.size w.drew w.drew:=RowKit.Below.refl _ _
 have hD:=h.drew
 have hd : RowKit.Below w.heap.size w w.drew:=(RowKit.Below.refl _ _).drew
 refine yT 0 tab_ok rfl (by kernel_rfl) hy rfl (rfl) ?_
 refine yL 1 tab_ok rfl (by kernel_rfl) hy rfl rfl (hD.r.xcell (i:=1) rfl (j:=3) rfl) ?_
 refine yT 2 tab_ok rfl (by kernel_rfl) hy rfl (rfl) ?_
 refine yT 3 tab_ok rfl (by kernel_rfl) hy rfl (rfl) ?_
 refine y_one 4 (by kernel_rfl) (y_op 4 tab_ok rfl rfl rfl rfl ?_)
 refine And.intro hen ((hend w.drew hd).mono ?_)
 rintro e w2 ⟨rfl,k1⟩
 refine ⟨_,rfl,?_⟩
 refine And.intro (.inr k1) ?_
 refine y_one 5 (by kernel_rfl) (y_op 5 tab_ok rfl rfl rfl rfl ?_)
 refine Exists.intro [(0,.bool b)] (Exists.intro #[.bool b] (And.intro (And.intro rfl rfl) (And.intro (by decide) (And.intro (fillB1 _ _) ?_))))
 have hy2:=k1.alloc k1.size (.cells #[.bool b] 4)
 refine And.intro (.inr hy2) ?_
 have h3:=(hD.below k1).alloc (.cells #[.bool b] 4)
 have ask : AppAsk (w2.alloc (.cells #[.bool b] 4)) ⟨4,.bool,1,1,.bool false⟩ (.slice gs ends.length cs) ends.length (bools ends) (Vs w2.heap.size 1 1) 1 [.bool b] base:=
  ⟨h3.r.1 0 _ rfl,.inr ⟨_,0,_,rfl,cell_alloc_new rfl,trivial⟩,rfl,(by simp [Value.oneCell']),(by omega),(by show (ends.length + 1) * 1 ≤ _; omega),h3.s⟩
 refine y_one 6 (by kernel_rfl) (y_op 6 tab_ok rfl rfl rfl rfl ?_)
 refine Exists.intro _ (Exists.intro _ (Exists.intro _ (Exists.intro _ (Exists.intro _ (And.intro (ask) (And.intro (fun _ h=>h.symm) (And.intro (by decide) ?_)))))))
 rintro v' w3 hown hgr - hat
 refine And.intro (.inl (by kernel_rfl)) ?_
 have h4:=h3.appB (ys:=[b]) (i:=0) rfl hown hgr hat
 obtain ⟨g2,n2,c2,hv⟩:=own_form hown
 subst hv
 refine yG 7 tab_ok rfl (by kernel_rfl) (.inl (by kernel_rfl)) rfl rfl ?_
 refine y_one 8 (by kernel_rfl) (y_op0 8 tab_ok rfl rfl rfl ?_)
 refine And.intro rfl (And.intro rfl (And.intro ⟨_,h4.r.xcell (i:=1) rfl (j:=3) rfl⟩ (And.intro (h4.r.free (i:=1) rfl 3) (And.intro (.inl (by kernel_rfl)) ?_))))
 exact y_endx (.slice g2 n2 c2) (by kernel_rfl) ⟨rfl,rfl,rfl,rfl,rfl,rfl,trivial⟩ (h4.xstore (i:=1) rfl 3 (.slice g2 n2 c2))
set_option maxHeartbeats 2000000 in
theorem buildI_any {n nb x0 L lim S S2 : Nat} {caps caps2 : Array Value} {next : List (List Int)} {fin : List Bool} {s0 : Int} {F : FS} (h : Hold base w0 w rest) (hn : n ≤ 100000) (hnl : next.length = n) (hx0 : x0 < n) (hL : L ≤ 100000) (hlim : n ≤ lim) (hlim2 : lim ≤ 1000000)
  (hsh : Shape (L : Int) s0 next fin) (hen : enters Tryz.prog S = true) (hen2 : enters Tryz.prog S2 = true)
  (hstep : ∀ (y c : Nat) (w : World),y < n → c < L → Hold base w0 w rest → Calls Tryz.prog S ([Vi y,Vi c] ++ caps.toList).toArray w fun e w'=>∃ z : Nat,z < n ∧ e = .returned (Vi z) ∧ tgtM next (y : Int) c = cd nb z ∧ RowKit.Below w.heap.size w w')
  (hend : ∀ (y : Nat) (w : World),y < n → Hold base w0 w rest → Calls Tryz.prog S2 ([Vi y] ++ caps2.toList).toArray w fun e w'=>e = .returned (.bool (fin.getD y false)) ∧ RowKit.Below w.heap.size w w')
  (hF : foundM (cd nb x0) next L = F) :
  Calls Tryz.prog 57 #[Vi x0,Vi nb,Vi L,Vi lim,.func (.func S) #[] caps,.func (.func S2) #[] caps2] w fun e w'=>∃ (vn ve : Value) (vs : List Value),e = .returned (.tuple #[.agg #[Vi L,Vi (if F.rows.length = 0 then -1 else 0 : Int),vn,ve],Vi 0]) ∧ Found (cd nb x0) next L F ∧ vs.length = F.rows.length ∧ (∀ l ∈ F.rows.map (renumM F.place next L),∀ x ∈ l,I64 x) ∧ Hold base w0 w' (oB ve (foundFin F fin) :: (nextR vn vs (F.rows.map (renumM F.place next L)) ++ rest)):=by
 refine Sym.enter (args:=[Vi x0,Vi nb,Vi L,Vi lim,.func (.func S) #[] caps,.func (.func S2) #[] caps2]) Tryz.func57 rfl rfl rfl (fun a0 hS0=>?_)
 refine wp_seq (seq_cutx (α:=Nat) (fun rc=>[(0,Vi x0),(1,Vi nb),(2,Vi L),(3,Vi lim),(4,.func (.func S) #[] caps),(5,.func (.func S2) #[] caps2),(12,Vp rc)]) (fun rc w'=>Hold base w0 w' (oX 25 rc 4 [Vi 0,Vi 0,.slice none 0 0,.slice none 0 0] :: rest)) tab_ok hS0 ?_ (fun rc a w1 hS h=>?_))
 ·refine zB rfl ?_
  repeat first|refine zP rfl ?_|refine zK rfl ?_
  exact o_nil ⟨_,⟨rfl,rfl,rfl,rfl,rfl,rfl,rfl,trivial⟩,h.box (T:=25) (k:=4) #[Vi 0,Vi 0,.slice none 0 0,.slice none 0 0] rfl⟩
 have hc0:=cd_lt (nb:=nb) hx0
 have hFo : Found (cd nb x0) next L F:=by
  rw [← hF]; exact foundM_found2 hsh hc0.1 (by rw [hnl]; exact hc0.2)
 have hr : ∀ r : Int,0 ≤ r → r < n → ∀ c,c < L → -1 ≤ tgtM next r c ∧ tgtM next r c < n:=fun r h1 h2 c hc=>by
  have:=tgt_range hsh r h1 (by omega) c (by rw [Int.toNat_natCast]; exact hc)
  rwa [hnl] at this
 refine wp_seq (seq_cutx (α:=Nat) (fun fb=>[(0,Vi x0),(1,Vi nb),(2,Vi L),(3,Vi lim),(4,.func (.func S) #[] caps),(5,.func (.func S2) #[] caps2),(12,Vp rc),(14,Vp fb)]) (fun fb w'=>FindN base w0 w' fb nb (FS.none n) (oX 25 rc 4 [Vi 0,Vi 0,.slice none 0 0,.slice none 0 0] :: rest)) tab_ok hS ?_ (fun fb a w2 hS h=>?_))
 ·repeat first|refine zP rfl ?_|refine zK rfl ?_
  refine zF rfl (en_newFinderI) (newFinderI_any h nb n) ?_
  rintro e w2 ⟨fb,rfl,h2⟩
  refine ⟨_,rfl,?_⟩
  repeat first|refine zP rfl ?_|refine zK rfl ?_
  exact o_nil ⟨fb,⟨rfl,rfl,rfl,rfl,rfl,rfl,rfl,rfl,trivial⟩,h2⟩
 refine wp_seq (seq_cutx (α:=Value × List Value) (fun v=>[(0,Vi x0),(1,Vi nb),(2,Vi L),(3,Vi lim),(4,.func (.func S) #[] caps),(5,.func (.func S2) #[] caps2),(12,Vp rc),(14,Vp fb),(15,v.1),(16,.bool true)]) (fun v w'=>v.2.length = F.rows.length ∧ FIn n F ∧ FindN base w0 w' fb nb F (nextR v.1 v.2 (F.rows.map (renumM F.place next L)) ++ (oX 25 rc 4 [Vi 0,Vi 0,.slice none 0 0,.slice none 0 0] :: rest))) tab_ok hS ?_ (fun v a w3 hS h=>?_))
 ·repeat first|refine zP rfl ?_|refine zK rfl ?_
  refine zF rfl (en_searchI) (searchI_any h hn hnl hx0 hL hlim hlim2 hr hen (fun y c w hy hc hw=>hstep y c w hy hc hw.tail) hF) ?_
  rintro e w3 ⟨vn,vs,rfl,k1,k2,k3⟩
  refine ⟨_,rfl,?_⟩
  repeat first|refine zP rfl ?_|refine zK rfl ?_
  exact o_nil ⟨(vn,vs),⟨rfl,rfl,rfl,rfl,rfl,rfl,rfl,rfl,rfl,rfl,trivial⟩,k1,k2,k3⟩
 obtain ⟨vn,vs⟩:=v
 simp only at hS h
 obtain ⟨hvs,hIF,h⟩:=h
 obtain ⟨gn,cn,hvn⟩ : ∃ g c,vn = .slice g vs.length c:=by
  obtain ⟨mb,vf,xs,h,-,-,-⟩:=h
  obtain ⟨g,c,e,-⟩:=h.r.any (i:=2) (v:=vn) (e:=35) (s:=1) (n:=vs.length) (xs:=vs) rfl
  exact ⟨g,c,e⟩
 refine wp_seq (wp_seq (seq_cut [(0,Vi x0),(1,Vi nb),(2,Vi L),(3,Vi lim),(4,.func (.func S) #[] caps),(5,.func (.func S2) #[] caps2),(12,Vp rc),(14,Vp fb),(15,vn),(32,.bool false)] (· = w3) tab_ok hS ?_ (fun a w4 hS hw=>?_)))
 ·repeat first|refine zP rfl ?_|refine zK rfl ?_
  exact o_nil ⟨⟨rfl,rfl,rfl,rfl,rfl,rfl,rfl,rfl,rfl,rfl,trivial⟩,rfl⟩
 subst hw
 refine cond hS rfl (fun hT=>by cases hT) (fun _=>wp_skip ?_)
 obtain ⟨fn1,fn2⟩:=first_num hFo
 refine wp_seq (seq_cutx (α:=Nat) (fun mi=>[(5,.func (.func S2) #[] caps2),(12,Vp rc),(14,Vp fb),(17,Vp mi)]) (fun mi w'=>∃ (mb : Nat) (vf : Value) (xs : List Nat),Hold base w0 w' (oB (.slice none 0 0) [] :: oX 25 mi 4 [Vi L,Vi (if F.rows.length = 0 then -1 else 0 : Int),vn,.slice none 0 0] :: oX 25 rc 4 [Vi 0,Vi 0,.slice none 0 0,.slice none 0 0] :: findX 120 fb [natV nb] mb vf :: oN vf xs :: (nextR vn vs (F.rows.map (renumM F.place next L)) ++ rest)) ∧ F.rows = xs.map Int.ofNat) tab_ok hS ?_ (fun mi a w5 hS h=>?_))
 ·subst hvn
  have hnum:=numberI_any h hIF hn hx0
  rw [fn1,fn2] at hnum
  repeat first|refine zP rfl ?_|refine zK rfl ?_
  refine zF rfl (en_numberI) (hnum) ?_
  rintro e w5 ⟨rfl,mb,vf,xs,h,hrs,hm,hb⟩
  refine ⟨_,rfl,?_⟩
  repeat first|refine zP rfl ?_|refine zK rfl ?_
  refine zB rfl ?_
  refine o_step0 rfl rfl (And.intro rfl (And.intro rfl (And.intro (own_cells4 (OwnB.new w5 [Vi 0,Vi 0,.slice none 0 0,.slice none 0 0] 25)) ?_)))
  have h2:=(h.var (T:=25) (k:=4) [Vi 0,Vi 0,.slice none 0 0,.slice none 0 0] [Vi L,Vi (if F.rows.length = 0 then -1 else 0 : Int),.slice gn vs.length cn,.slice none 0 0] rfl rfl).1
  refine o_nil ⟨_,⟨rfl,rfl,rfl,rfl,trivial⟩,mb,vf,xs,?_,hrs⟩
  refine (h2.nil 4 1).perm (.cons _ (.cons _ ?_))
  exact List.perm_middle (l₁:=findX 120 fb [natV nb] mb vf :: oN vf xs :: nextR (.slice gn vs.length cn) vs (F.rows.map (renumM F.place next L))) (l₂:=rest)
 obtain ⟨mb,vf,xs,h,hrs⟩:=h
 have hxl : F.rows.length = xs.length:=by rw [hrs,List.length_map]
 have hcap:=hIF.ok.cap
 obtain ⟨TL,hTL⟩ : ∃ TL,TL = oX 25 rc 4 [Vi 0,Vi 0,.slice none 0 0,.slice none 0 0] :: findX 120 fb [natV nb] mb vf :: oN vf xs :: (nextR vn vs (F.rows.map (renumM F.place next L)) ++ rest):=⟨_,rfl⟩
 refine wp_seq (wp_seq (seq_cut [(5,.func (.func S2) #[] caps2),(12,Vp rc),(17,Vp mi),(43,vf),(44,Vi xs.length),(45,Vi (0 : Nat))] (· = w5) tab_ok hS ?_ (fun a w' hS hw=>?_)))
 ·obtain ⟨gf,cf,rfl,-,-⟩:=h.r.any (i:=4) rfl
  repeat first|refine zP rfl ?_|refine zK rfl ?_
  refine zL rfl (h.r.xcell (i:=3) rfl (j:=2) rfl) ?_
  repeat first|refine zP rfl ?_|refine zK rfl ?_
  exact o_nil ⟨⟨rfl,rfl,rfl,rfl,rfl,rfl,trivial⟩,rfl⟩
 subst hw
 rw [← hTL] at h
 refine wp_block (loop0 hS (fun γ E w'=>∃ (k : Nat) (ve : Value),k ≤ xs.length ∧ γ = xs.length - k ∧ E = [(5,.func (.func S2) #[] caps2),(12,Vp rc),(17,Vp mi),(43,vf),(44,Vi xs.length),(45,Vi k)] ∧ Hold base w0 w' (oB ve ((F.rows.take k).map fun r=>fin.getD r.toNat false) :: oX 25 mi 4 [Vi L,Vi (if F.rows.length = 0 then -1 else 0 : Int),vn,ve] :: TL)) xs.length ⟨0,.slice none 0 0,by omega,by omega,rfl,h⟩ ?_)
 clear hS h
 rintro γ E w6 a ⟨k,ve,hk,rfl,rfl,h⟩ hS
 refine wp_seq (seq_cut [(5,.func (.func S2) #[] caps2),(12,Vp rc),(17,Vp mi),(43,vf),(44,Vi xs.length),(45,Vi k),(46,.bool (decide (k < xs.length)))] (· = w6) tab_ok hS ?_ (fun a w7 hS hw=>?_))
 ·repeat first|refine zP rfl ?_|refine zK rfl ?_
  refine zC rfl (lt_nat _ _) ?_
  repeat first|refine zP rfl ?_|refine zK rfl ?_
  exact o_nil ⟨⟨rfl,rfl,rfl,rfl,rfl,rfl,rfl,trivial⟩,rfl⟩
 subst hw
 refine wp_seq (cond hS rfl (fun hT=>wp_skip ?_) (fun hF'=>?_))
 rotate_left
 ·have hkk : k = F.rows.length:=by have:=of_decide_eq_false hF'; omega
  rw [hkk,List.take_length] at h
  refine wp_exit ?_
  repeat (first | refine then_exit ?_ | refine block_exit ?_ | refine block_other rfl ?_)
  subst hTL
  refine wp_seq (seq_cut [(12,Vp rc),(13,Vi 0)] (fun w'=>Hold base w0 w' ((oB ve (foundFin F fin) :: oX 25 mi 4 [Vi L,Vi (if F.rows.length = 0 then -1 else 0 : Int),vn,ve] :: oX 25 rc 4 [Vi L,Vi (if F.rows.length = 0 then -1 else 0 : Int),vn,ve] :: findX 120 fb [natV nb] mb vf :: [oN vf xs]) ++ (nextR vn vs (F.rows.map (renumM F.place next L)) ++ rest))) tab_ok hS ?_ (fun a w8 hS h=>?_))
  ·refine zA ([Vi L,Vi (if F.rows.length = 0 then -1 else 0 : Int),vn,ve]) rfl rfl (⟨h.r.xcell (i:=1) rfl (j:=0) rfl,h.r.xcell (i:=1) rfl (j:=1) rfl,h.r.xcell (i:=1) rfl (j:=2) rfl,h.r.xcell (i:=1) rfl (j:=3) rfl,trivial⟩) ?_
   obtain ⟨ge,ce,hve2,-⟩:=h.r.any (i:=0) (v:=ve) (e:=4) (s:=1) (n:=(foundFin F fin).length) (xs:=bools (foundFin F fin)) rfl
   have hone : oneCells (Value.agg #[Vi L,Vi (if F.rows.length = 0 then -1 else 0 : Int),vn,ve]).cells.toList = true:=by rw [hvn,hve2]; rfl
   refine o_step0 rfl rfl (And.intro rfl (And.intro hone (And.intro (x_cells4 h.r (i:=2) rfl) ?_)))
   repeat first|refine zP rfl ?_|refine zK rfl ?_
   exact o_nil ⟨⟨rfl,rfl,trivial⟩,h.xput4 (i:=2) rfl _ _ _ _⟩
  have hI64 : ∀ l ∈ F.rows.map (renumM F.place next L),∀ x ∈ l,I64 x:=fun l hl x hx=>by
   obtain ⟨r,hr1,rfl⟩:=List.mem_map.1 hl
   obtain ⟨c,hc,rfl⟩:=List.mem_map.1 hx
   obtain ⟨q1,q2,-⟩:=hIF.ok.r r hr1
   have:=plcM_in hIF (hr r q1 q2 c (List.mem_range.1 hc)).2
   unfold I64; omega
  have hfin:=(((h.erase 1).erase 1).erase 1).erase 1
  refine wp_ret ?_
  repeat (first | refine then_ret ?_ | refine block_ret ?_)
  refine retc2 tab_ok hS rfl rfl rfl rfl rfl (o:=0) (vs:=[Vi L,Vi (if F.rows.length = 0 then -1 else 0 : Int),vn,ve]) ⟨h.r.xcell (i:=2) rfl (j:=0) rfl,h.r.xcell (i:=2) rfl (j:=1) rfl,h.r.xcell (i:=2) rfl (j:=2) rfl,h.r.xcell (i:=2) rfl (j:=3) rfl,trivial⟩ rfl ⟨vn,ve,vs,rfl,hFo,hvs,hI64,hfin⟩
 have hkk : k < xs.length:=of_decide_eq_true hT
 have hkr : k < F.rows.length:=by omega
 obtain ⟨y,hye⟩ : ∃ y,y = gt xs k:=⟨_,rfl⟩
 have hyr : ((y : Nat) : Int) = F.rows[k]:=by
  rw [hye]
  simp only [hrs,List.getElem_map]
  simp [gt,List.getD_eq_getElem?_getD,hkk]
 have hyn : y < n:=by
  have:=hIF.ok.r _ (List.getElem_mem hkr)
  omega
 refine wp_seq (wp_block (wp_seq (seq_cut [(5,.func (.func S2) #[] caps2),(12,Vp rc),(17,Vp mi),(43,vf),(44,Vi xs.length),(45,Vi k),(19,Vi y)] (· = w7) tab_ok hS ?_ (fun a w8 hS hw=>?_))))
 ·subst hTL
  obtain ⟨gf,cf,rfl,-⟩:=h.r.nilOr (i:=4) rfl (by omega)
  have hcell:=h.r.cN (i:=4) rfl hkk
  rw [← hye] at hcell
  repeat first|refine zP rfl ?_|refine zK rfl ?_
  refine zI rfl (rfl) (hkk) ?_
  refine zL rfl (hcell) ?_
  repeat first|refine zP rfl ?_|refine zK rfl ?_
  exact o_nil ⟨⟨rfl,rfl,rfl,rfl,rfl,rfl,rfl,trivial⟩,rfl⟩
 subst hw
 refine build_r9 (b:=fin.getD y false) h (by simp; omega) hen2 (fun w' hw'=>hend y w' hyn (by
  have:=h.below hw'
  subst hTL
  exact (this.drop (A:=oB ve ((F.rows.take k).map fun r=>fin.getD r.toNat false) :: oX 25 mi 4 [Vi L,Vi (if F.rows.length = 0 then -1 else 0 : Int),vn,ve] :: oX 25 rc 4 [Vi 0,Vi 0,.slice none 0 0,.slice none 0 0] :: findX 120 fb [natV nb] mb vf :: oN vf xs :: nextR vn vs (F.rows.map (renumM F.place next L)))))) (by rfl) hS (fun ve' a w9 hS h=>?_)
 refine block_normal ?_
 refine seq_cut [(5,.func (.func S2) #[] caps2),(12,Vp rc),(17,Vp mi),(43,vf),(44,Vi xs.length),(45,Vi (k + 1 : Nat))] (· = w9) tab_ok hS ?_ (fun a w10 hS hw=>?_)
 ·repeat first|refine zP rfl ?_|refine zK rfl ?_
  refine zN rfl (i64_add k 1 (by omega)) ?_
  repeat first|refine zP rfl ?_|refine zK rfl ?_
  exact o_nil ⟨⟨rfl,rfl,rfl,rfl,rfl,rfl,trivial⟩,rfl⟩
 subst hw
 refine ⟨xs.length - (k + 1),_,by omega,⟨k + 1,ve',by omega,rfl,rfl,?_⟩,hS⟩
 rw [List.take_succ_eq_append_getElem hkr,List.map_append,List.map_singleton,← hyr,Int.toNat_natCast]
 exact h
end
end Go.Proofs.YthcoppfiahnpoaaGreat
namespace Go.Proofs.YthcoppfiahnpoaaGreat
def repB (p : Pt) (b : Nat) : Nat:=gt p.st (gb p.bs b).first
def quoN (L : Nat) (nx : List Nat) (p : Pt) (nb : Nat) : List (List Int):=(List.range p.bs.length).map fun b=>(List.range L).map fun c=>cd nb (gt p.bl (dlG nx L (repB p b) c))
def quoF (en : List Bool) (p : Pt) : List Bool:=(List.range p.bs.length).map fun b=>enG en (repB p b)
section
variable {L N nb tt : Nat} {nx : List Nat} {en : List Bool} {p : Pt} {lev : Nat → Nat → Nat} {R : Nat}
theorem rep_lt (h : RefS L N nx en p lev R) {b : Nat} (hb : b < p.bs.length) : repB p b < N ∧ gt p.bl (repB p b) = b ∧ (gb p.bs b).first < N:=by
 obtain ⟨h1,-,h3⟩:=h.pi.bd b hb
 have h4 : (gb p.bs b).first < N:=by omega
 exact ⟨(h.pi.sp _ h4).1,h.pi.own b hb _ (Nat.le_refl _) (by omega),h4⟩
theorem quo_row (h : RefS L N nx en p lev R) {b : Nat} (hb : b < p.bs.length) : (quoN L nx p nb).getD b [] = (List.range L).map fun c=>cd nb (gt p.bl (dlG nx L (repB p b) c)):=by
 have:=h.pos
 simp [quoN,List.getD_eq_getElem?_getD,hb]
theorem quo_tgt (h : RefS L N nx en p lev R) {b c : Nat} (hb : b < p.bs.length) (hc : c < L) : tgtM (quoN L nx p nb) (b : Int) c = cd nb (gt p.bl (dlG nx L (repB p b) c)):=by
 rw [tgtM,Int.toNat_natCast,quo_row h hb]
 simp [List.getD_eq_getElem?_getD,hc]
theorem quo_same (h : RefS L N nx en p lev R) {s t : Nat} (hs : s < N) (ht : t < N) : gt p.bl s = gt p.bl t ↔ ∀ w,Word L w → enG en (rnG (dlG nx L) s w) = enG en (rnG (dlG nx L) t w):=by
 rw [h.cur s hs,h.cur t ht]; exact h.tells s t hs ht
theorem quo_fin (h : RefS L N nx en p lev R) {b : Nat} (hb : b < p.bs.length) : (quoF en p).getD b false = enG en (repB p b):=by
 have:=h.pos
 simp [quoF,List.getD_eq_getElem?_getD,hb]
theorem quo_acc (h : RefS L N nx en p lev R) (hg : Gr N L nx en) (htt : tt < N) (hnb : nb = gt p.bl tt) (dead : ∀ w,Word L w → enG en (rnG (dlG nx L) tt w) = false) :
  ∀ (w : List Nat) (x : Nat),Word L w → x < N → accM (quoN L nx p nb) (quoF en p) (cd nb (gt p.bl x)) w = enG en (rnG (dlG nx L) x w):=by
 intro w
 induction w with
 | nil=>
   intro x hw hx
   by_cases e : gt p.bl x = nb
   ·rw [cd,if_pos e,accM_neg _ _ _ (by omega),(quo_same h hx htt).1 (by rw [e,hnb]) [] hw,dead [] hw]
   ·have hb:=h.pi.ib x hx
    obtain ⟨r1,r2,-⟩:=rep_lt h hb
    rw [cd,if_neg e,accM_nil,endsM,decide_eq_true (by omega),Bool.true_and,Int.toNat_natCast,quo_fin h hb]
    exact (quo_same h r1 hx).1 r2 [] hw
 | cons c w ih=>
   intro x hw hx
   by_cases e : gt p.bl x = nb
   ·rw [cd,if_pos e,accM_neg _ _ _ (by omega),(quo_same h hx htt).1 (by rw [e,hnb]) _ hw,dead _ hw]
   ·have hb:=h.pi.ib x hx
    obtain ⟨r1,r2,-⟩:=rep_lt h hb
    have hd:=hg.lt (repB p (gt p.bl x)) c r1 hw.head
    rw [cd,if_neg e,accM_cons,tgt_step (by omega),quo_tgt h hb hw.head,ih _ hw.tail hd]
    exact (quo_same h r1 hx).1 r2 (c :: w) hw
theorem quo_shape (h : RefS L N nx en p lev R) (hg : Gr N L nx en) : Shape (L : Int) 0 (quoN L nx p nb) (quoF en p):=by
 have hK : 0 < p.bs.length:=by have:=h.pi.ib 0 hg.pos; omega
 refine ⟨by omega,by simp [quoN,quoF],by omega,by simp only [quoN,List.length_map,List.length_range]; omega,fun _=>by omega,fun k hk=>?_⟩
 have hk' : k < p.bs.length:=by simpa [quoN] using hk
 simp only [quoN,List.getElem_map,List.getElem_range,List.length_map,List.length_range]
 refine ⟨trivial,fun j hj=>?_⟩
 obtain ⟨r1,-⟩:=rep_lt h hk'
 exact cd_lt (h.pi.ib _ (hg.lt _ j r1 (by simpa using hj)))
theorem rows_ne {next : List (List Int)} {z : Int} (hz : ∀ r c,tgtM next r c ≠ z) : ∀ (g i : Nat) (s : FS),z ∉ s.rows → z ∉ (foundGo next L g i s).rows
 | 0,_,_,h=>h
 | g + 1,i,s,h=>by
   rw [foundGo]
   split
   ·refine rows_ne hz g (i + 1) _ ?_
    have : ∀ c,z ∉ (FS.row next (s.rows.getD i 0) c s).rows:=fun c=>by
     induction c with
     | zero=>exact h
     | succ c ih=>
       rw [FS.row_succ,FS.step_num,FS.num]
       split
       ·rw [List.mem_append,List.mem_singleton]
        rintro (k | k)
        ·exact ih k
        ·exact hz _ _ k.symm
       ·exact ih
    exact this L
   ·exact h
theorem cd_ne (nb x : Nat) : cd nb x ≠ (nb : Int):=by
 unfold cd; split <;> omega
theorem quo_canon (h : RefS L N nx en p lev R) (hg : Gr N L nx en) (htt : tt < N) (hnb : nb = gt p.bl tt) (dead : ∀ w,Word L w → enG en (rnG (dlG nx L) tt w) = false) {x : Nat} (hx : x < N) {F : FS} (hF : foundM (cd nb (gt p.bl x)) (quoN L nx p nb) L = F) (hFo : Found (cd nb (gt p.bl x)) (quoN L nx p nb) L F) :
  Canon (L : Int) (if F.rows.length = 0 then -1 else 0) (F.rows.map (renumM F.place (quoN L nx p nb) L)) (foundFin F (quoF en p)) ∧
   ∀ w,Word L w → accM (F.rows.map (renumM F.place (quoN L nx p nb) L)) (foundFin F (quoF en p)) (if F.rows.length = 0 then -1 else 0) w = enG en (rnG (dlG nx L) x w):=by
 have hlen : (quoN L nx p nb).length = p.bs.length:=by simp [quoN]
 have hz : ∀ r c,tgtM (quoN L nx p nb) r c ≠ (nb : Int):=fun r c=>by
  unfold tgtM
  generalize r.toNat = b
  by_cases hb : b < p.bs.length
  ·rw [quo_row h hb]
   by_cases hc : c < L
   ·simp only [List.getD_eq_getElem?_getD,List.getElem?_map,List.getElem?_range hc,Option.map_some,Option.getD_some]
    exact cd_ne _ _
   ·rw [List.getD_eq_getElem?_getD,List.getElem?_eq_none (by simp; omega),Option.getD_none]; omega
  ·rw [List.getD_eq_getElem?_getD (l:=quoN L nx p nb),List.getElem?_eq_none (by omega),Option.getD_none]
   simp
 have hnr : (nb : Int) ∉ F.rows:=by
  have hb:=h.pi.ib x hx
  have:=cd_lt (nb:=nb) hb
  rw [← hF,foundM_go (by rw [hlen]; exact this.2) this.1]
  refine rows_ne hz _ _ _ ?_
  rw [FS.num]
  split
  ·simp only [FS.none,List.nil_append,List.mem_singleton]
   exact (cd_ne _ _).symm
  ·simp [FS.none]
 have hrow : ∀ b : Nat,(b : Int) ∈ F.rows → b < p.bs.length ∧ b ≠ nb ∧ repB p b < N ∧ ∀ w,Word L w → accM (quoN L nx p nb) (quoF en p) b w = enG en (rnG (dlG nx L) (repB p b) w):=fun b hb=>by
  obtain ⟨-,b2,-⟩:=hFo.inn.ok.r _ hb
  have hbK : b < p.bs.length:=by omega
  have hne : b ≠ nb:=fun e=>hnr (e ▸ hb)
  obtain ⟨r1,r2,-⟩:=rep_lt h hbK
  refine ⟨hbK,hne,r1,fun w hw=>?_⟩
  have:=quo_acc h hg htt hnb dead w (repB p b) hw r1
  rwa [r2,cd,if_neg hne] at this
 have hc:=find_canon (L:=(L : Int)) (quo_shape (nb:=nb) h hg) (by rw [Int.toNat_natCast]; exact hFo) (fun b hb=>by
  obtain ⟨h1,h2,h3,h4⟩:=hrow b hb
  rw [Int.toNat_natCast]
  have hnt : ¬ gt p.bl (repB p b) = gt p.bl tt:=by rw [(rep_lt h h1).2.1,← hnb]; exact h2
  rw [quo_same h h3 htt] at hnt
  obtain ⟨w,hw⟩:=Classical.not_forall.1 hnt
  obtain ⟨hw1,hw2⟩:=Classical.not_imp.1 hw
  refine ⟨w,hw1,?_⟩
  rw [h4 w hw1]
  rw [dead w hw1] at hw2
  exact (Bool.not_eq_false _).mp hw2) (fun b b' hb hb' ha=>by
  obtain ⟨h1,h2,h3,h4⟩:=hrow b hb
  obtain ⟨k1,k2,k3,k4⟩:=hrow b' hb'
  rw [Int.toNat_natCast] at ha
  have:=(quo_same h h3 k3).2 (fun w hw=>by rw [← h4 w hw,← k4 w hw]; exact ha w hw)
  rwa [(rep_lt h h1).2.1,(rep_lt h k1).2.1] at this)
 rw [Int.toNat_natCast] at hc
 refine ⟨hc.1,fun w hw=>?_⟩
 rw [hc.2 w hw]
 exact quo_acc h hg htt hnb dead w x hw hx
end
end Go.Proofs.YthcoppfiahnpoaaGreat
namespace Go.Proofs.YthcoppfiahnpoaaGreat
open Go Sym
section
variable {base : Nat} {w0 w w' : World} {l : List Ow}
end
end Go.Proofs.YthcoppfiahnpoaaGreat
namespace Go.Proofs.YthcoppfiahnpoaaGreat
open Go Sym
end Go.Proofs.YthcoppfiahnpoaaGreat
namespace Go.Proofs.YthcoppfiahnpoaaGreat
open Go Sym
structure MBx (w : World) (b : Nat) (L s : Int) (n : List (List Int)) (f : List Bool) (vn ve : Value) : Prop where
 o : OwnB w b 25 [Vi L,Vi s,vn,ve]
 m : Ma w L s n f vn ve
theorem MBx.keep {w w' : World} {b : Nat} {L s : Int} {n : List (List Int)} {f : List Bool} {vn ve : Value} (h : MBx w b L s n f vn ve) (hb : RowKit.Below w.heap.size w w') : MBx w' b L s n f vn ve:=⟨h.o.keep hb h.o.lt,h.m.keep hb⟩
theorem MBx.cells {w : World} {b : Nat} {L s : Int} {n : List (List Int)} {f : List Bool} {vn ve : Value} (h : MBx w b L s n f vn ve) : cellsAt w.cell? b 0 [Vi L,Vi s,vn,ve]:=
 ⟨h.o.cell (i:=0) rfl,h.o.cell (i:=1) rfl,h.o.cell (i:=2) rfl,h.o.cell (i:=3) rfl,trivial⟩
theorem mb_put {w : World} {L s : Int} {n : List (List Int)} {f : List Bool} {vn ve : Value} (h : Ma w L s n f vn ve) :
  RowKit.Below w.heap.size w ((w.alloc (.cells #[Vi 0,Vi 0,.slice none 0 0,.slice none 0 0] 25)).setCells w.heap.size 0 [Vi L,Vi s,vn,ve]) ∧ MBx ((w.alloc (.cells #[Vi 0,Vi 0,.slice none 0 0,.slice none 0 0] 25)).setCells w.heap.size 0 [Vi L,Vi s,vn,ve]) w.heap.size L s n f vn ve:=by
 have hnew:=OwnB.new w [Vi 0,Vi 0,.slice none 0 0,.slice none 0 0] 25
 have hg:=grown_sets w.heap.size [Vi L,Vi s,vn,ve] 0 (w.alloc (.cells #[Vi 0,Vi 0,.slice none 0 0,.slice none 0 0] 25))
 have hb:=below_of_grown (below_alloc w (.cells #[Vi 0,Vi 0,.slice none 0 0,.slice none 0 0] 25)) hg (fun q hq=>by cases hq; exact Nat.le_refl _)
 exact ⟨hb,hnew.sets rfl,h.keep hb⟩
end Go.Proofs.YthcoppfiahnpoaaGreat
namespace Go.Proofs.YthcoppfiahnpoaaGreat
open Go Sym
theorem en_least1 : enters Tryz.prog 54 = true:=by kernel_rfl
theorem en_least2 : enters Tryz.prog 55 = true:=by kernel_rfl
theorem en_least3 : enters Tryz.prog 56 = true:=by kernel_rfl
theorem en_aleast : enters Tryz.prog 27 = true:=by kernel_rfl
section
variable {base : Nat} {w0 w : World}
abbrev leR (pv gv sv pb b L tot : Nat) (p : Pt) (g : GP) (V : PV) (GVa : GV) : List Ow:=
 [oX 57 pv 1 [Vp pb],oX 55 gv 1 [Vp b],oX 92 sv 1 [.func (.func 54) #[] #[Vp pv]]] ++ (ptR pb p V ++ (grR b L tot g GVa ++ []))
variable {pv gv sv pb b L tot : Nat} {p : Pt} {g : GP} {V : PV} {GVa : GV} {lev : Nat → Nat → Nat} {R : Nat}
theorem least1_any (h : Hold base w0 w (leR pv gv sv pb b L tot p g V GVa)) (hR : RefS L (tot + 1) g.nx g.en p lev R) (hN : tot ≤ 10000) {y : Nat} (hy : y < p.bs.length) :
  Calls Tryz.prog 54 #[Vi y,Vp pv] w fun e w'=>e = .returned (Vi (repB p y : Int)) ∧ RowKit.Below w.heap.size w w':=by
 obtain ⟨r1,-,r3⟩:=rep_lt hR hy
 have hst:=hR.pi.st
 obtain ⟨vst,vpl,vbl,vbs,vcs,vml⟩:=V
 obtain ⟨gst,cst,rfl,-⟩:=h.r.nilOr (i:=4) rfl (by omega)
 obtain ⟨gbs,cbs,rfl,-⟩:=h.r.nilOr (i:=7) rfl (by omega)
 refine Sym.enter (args:=[Vi y,Vp pv]) Tryz.func54 rfl rfl rfl (fun a0 hS0=>?_)
 refine wp_seq (seq_cut [(0,Vi y),(1,Vp pv)] (· = w) tab_ok hS0 ?_ (fun a w1 hS hw=>?_))
 ·repeat first|refine zP rfl ?_|refine zK rfl ?_
  exact o_nil ⟨⟨rfl,rfl,trivial⟩,rfl⟩
 subst hw
 refine wp_seq (quiet_cut [(3,Vi (repB p y : Int))] tab_ok mixed (by kernel_rfl) hS ?_ (fun a w2 hS hw=>?_))
 ·repeat first|refine qP rfl ?_|refine qK rfl ?_
  refine qL rfl (h.r.xcell (i:=0) rfl (j:=0) rfl) ?_
  repeat first|refine qP rfl ?_|refine qK rfl ?_
  refine qL rfl (h.r.xcell (i:=3) rfl (j:=0) rfl) ?_
  refine qL rfl (h.r.xcell (i:=0) rfl (j:=0) rfl) ?_
  repeat first|refine qP rfl ?_|refine qK rfl ?_
  refine qL rfl (h.r.xcell (i:=3) rfl (j:=3) rfl) ?_
  repeat first|refine qP rfl ?_|refine qK rfl ?_
  refine qI rfl (rfl) (hy) ?_
  refine qP rfl ?_
  refine qL rfl (h.r.cK0 (i:=7) rfl hy) ?_
  refine qI rfl (rfl) ((by omega)) ?_
  refine qL rfl (h.r.cS (i:=4) rfl (j:=(gb p.bs y).first) (by omega)) ?_
  refine qN rfl (i64_in _ (by show repB p y ≤ _; omega)) ?_
  repeat first|refine qP rfl ?_|refine qK rfl ?_
  exact q_nil ⟨rfl,trivial⟩
 refine wp_ret ?_
 repeat (first | refine then_ret ?_ | refine block_ret ?_)
 exact ret1 hS rfl rfl ⟨rfl,hw⟩
theorem least2_any (h : Hold base w0 w (leR pv gv sv pb b L tot p g V GVa)) (hR : RefS L (tot + 1) g.nx g.en p lev R) (hg : Gr (tot + 1) L g.nx g.en) (hN : tot ≤ 10000) (hL : L ≤ 300) {y c : Nat} (hy : y < p.bs.length) (hc : c < L) :
  Calls Tryz.prog 55 #[Vi y,Vi c,Vp pv,Vp gv,Vp sv] w fun e w'=>e = .returned (Vi (gt p.bl (dlG g.nx L (repB p y) c) : Int)) ∧ RowKit.Below w.heap.size w w':=by
 obtain ⟨r1,-,r3⟩:=rep_lt hR hy
 have hbl:=hR.pi.bl
 have hd:=hg.lt _ c r1 hc
 have hdl : dlG g.nx L (repB p y) c < tot + 1:=hd
 have hlen:=hg.len
 have hidx : repB p y * L + c < g.nx.length:=by rw [hlen]; exact idx_lt r1 hc
 have hnx : g.nx.length ≤ 1000000000:=by
  rw [hlen]
  have:=Nat.mul_le_mul (show tot + 1 ≤ 10001 by omega) hL
  omega
 have hst1:=fun w1 (h1 : RowKit.Below w.heap.size w w1)=>least1_any (h.below h1) hR hN hy
 have hgf:=fun w1 (h1 : RowKit.Below w.heap.size w w1)=>gfollow_any (rest:=[]) (s:=repB p y) (c:=c) (h.below h1).drop.drop hidx hnx (by omega)
 obtain ⟨vst,vpl,vbl,vbs,vcs,vml⟩:=V
 obtain ⟨gbl,cbl,rfl,-⟩:=h.r.nilOr (i:=6) rfl (by omega)
 refine Sym.enter (args:=[Vi y,Vi c,Vp pv,Vp gv,Vp sv]) Tryz.func55 rfl rfl rfl (fun a0 hS0=>?_)
 refine wp_seq (seq_cut [(0,Vi y),(1,Vi c),(2,Vp pv),(3,Vp gv),(4,Vp sv)] (· = w) tab_ok hS0 ?_ (fun a w1 hS hw=>?_))
 ·repeat first|refine zP rfl ?_|refine zK rfl ?_
  exact o_nil ⟨⟨rfl,rfl,rfl,rfl,rfl,trivial⟩,rfl⟩
 subst hw
 refine wp_seq (quiet_cut [(7,Vi (gt p.bl (dlG g.nx L (repB p y) c) : Int))] tab_ok mixed (by kernel_rfl) hS ?_ (fun a w2 hS hw=>?_))
 ·repeat first|refine qP rfl ?_|refine qK rfl ?_
  refine qL rfl (h.r.xcell (i:=0) rfl (j:=0) rfl) ?_
  repeat first|refine qP rfl ?_|refine qK rfl ?_
  refine qL rfl (h.r.xcell (i:=3) rfl (j:=2) rfl) ?_
  refine qL rfl (h.r.xcell (i:=1) rfl (j:=0) rfl) ?_
  refine qL rfl (h.r.xcell (i:=2) rfl (j:=0) rfl) ?_
  repeat first|refine qP rfl ?_|refine qK rfl ?_
  refine qF (Vi (repB p y : Int)) rfl (en_least1) (hst1) ?_
  repeat first|refine qP rfl ?_|refine qK rfl ?_
  refine qF (Vi (dlG g.nx L (repB p y) c : Int)) rfl (en_gfollow) (hgf) ?_
  refine qI rfl (rfl) ((by omega)) ?_
  refine qL rfl (h.r.cN (i:=6) rfl (j:=dlG g.nx L (repB p y) c) (by omega)) ?_
  repeat first|refine qP rfl ?_|refine qK rfl ?_
  exact q_nil ⟨rfl,trivial⟩
 refine wp_ret ?_
 repeat (first | refine then_ret ?_ | refine block_ret ?_)
 exact ret1 hS rfl rfl ⟨rfl,hw⟩
theorem least3_any (h : Hold base w0 w (leR pv gv sv pb b L tot p g V GVa)) (hR : RefS L (tot + 1) g.nx g.en p lev R) (hg : Gr (tot + 1) L g.nx g.en) (hN : tot ≤ 10000) {y : Nat} (hy : y < p.bs.length) :
  Calls Tryz.prog 56 #[Vi y,Vp gv,Vp sv] w fun e w'=>e = .returned (.bool ((quoF g.en p).getD y false)) ∧ RowKit.Below w.heap.size w w':=by
 rw [quo_fin hR hy]
 obtain ⟨r1,-,r3⟩:=rep_lt hR hy
 have henl:=hg.enl
 have hst1:=fun w1 (h1 : RowKit.Below w.heap.size w w1)=>least1_any (h.below h1) hR hN hy
 obtain ⟨gst,gnx,gen⟩:=GVa
 obtain ⟨ge,ce,rfl,-⟩:=h.r.nilOr (i:=13) rfl (by omega)
 refine Sym.enter (args:=[Vi y,Vp gv,Vp sv]) Tryz.func56 rfl rfl rfl (fun a0 hS0=>?_)
 refine wp_seq (seq_cut [(0,Vi y),(1,Vp gv),(2,Vp sv)] (· = w) tab_ok hS0 ?_ (fun a w1 hS hw=>?_))
 ·repeat first|refine zP rfl ?_|refine zK rfl ?_
  exact o_nil ⟨⟨rfl,rfl,rfl,trivial⟩,rfl⟩
 subst hw
 refine wp_seq (quiet_cut [(4,.bool (enG g.en (repB p y)))] tab_ok mixed (by kernel_rfl) hS ?_ (fun a w2 hS hw=>?_))
 ·repeat first|refine qP rfl ?_|refine qK rfl ?_
  refine qL rfl (h.r.xcell (i:=1) rfl (j:=0) rfl) ?_
  repeat first|refine qP rfl ?_|refine qK rfl ?_
  refine qL rfl (h.r.xcell (i:=10) rfl (j:=3) rfl) ?_
  refine qL rfl (h.r.xcell (i:=2) rfl (j:=0) rfl) ?_
  repeat first|refine qP rfl ?_|refine qK rfl ?_
  refine qF (Vi (repB p y : Int)) rfl (en_least1) (hst1) ?_
  refine qI rfl (rfl) ((by omega)) ?_
  refine qL rfl (h.r.cB (i:=13) rfl (j:=repB p y) (by omega)) ?_
  repeat first|refine qP rfl ?_|refine qK rfl ?_
  exact q_nil ⟨rfl,trivial⟩
 refine wp_ret ?_
 repeat (first | refine then_ret ?_ | refine block_ret ?_)
 exact ret1 hS rfl rfl ⟨rfl,hw⟩
end
theorem one_facts {L s : Int} {n1 : List (List Int)} {f1 : List Bool} (h1 : Shape L s n1 f1) : ∃ x,(layG L.toNat [⟨s,n1,f1⟩]).st = [x] ∧ Gr (n1.length + 1) L.toNat (layG L.toNat [⟨s,n1,f1⟩]).nx (layG L.toNat [⟨s,n1,f1⟩]).en ∧ x < n1.length + 1 ∧
  (∀ w,Word L.toNat w → enG (layG L.toNat [⟨s,n1,f1⟩]).en (rnG (dlG (layG L.toNat [⟨s,n1,f1⟩]).nx L.toNat) x w) = accM n1 f1 s w) ∧
  ∀ w,Word L.toNat w → enG (layG L.toNat [⟨s,n1,f1⟩]).en (rnG (dlG (layG L.toNat [⟨s,n1,f1⟩]).nx L.toNat) n1.length w) = false:=by
 obtain ⟨k1,k2⟩:=shape_ok h1
 obtain ⟨nx,en,e,l1,l2,d1,hle⟩:=lay_one k1 k2
 have hL : ((L.toNat : Nat) : Int) = L:=by have:=h1.L0; omega
 have h1' : Shape ((L.toNat : Nat) : Int) s n1 f1:=by rw [hL]; exact h1
 have t1:=laid_goes (m:=⟨s,n1,f1⟩) h1' d1 l1 l2
 rw [e]
 refine ⟨_,rfl,gr_of l1 l2 hle,?_,fun w hw=>t1 w s h1.s1 h1.s2 hw,fun w hw=>?_⟩
 ·have:=h1.s2
  have:=h1.s1
  show plG n1.length 0 s < _
  unfold plG; split <;> omega
 ·have:=t1 w (-1) (by omega) (by show (-1 : Int) < (n1.length : Int); omega) hw
  rw [show plG n1.length 0 (-1) = n1.length from rfl] at this
  rw [this]; exact accM_neg _ _ _ (by omega)
theorem MsIn.one {w : World} {Bm : Nat} {L s1 : Int} {vn1 ve1 : Value} {n1 : List (List Int)} {f1 : List Bool} (hm : Ma w L s1 n1 f1 vn1 ve1)
  (hc : cellsAt w.cell? Bm 0 [Vi L,Vi s1,vn1,ve1]) : MsIn w Bm L [⟨s1,n1,f1⟩]:=fun j hj=>by
 obtain ⟨c0,c1,c2,c3,_⟩:=hc
 match j,hj with
 | 0,_=>exact ⟨vn1,ve1,⟨c0,c1,c2,c3,trivial⟩,hm⟩
theorem fill4m (a b c d : Value) (cs : Array Value) : Instr.fill (fun i=>some (i * 4,4)) (madeCells cs (1 * 4)) [(0,.agg #[a,b,c,d])] = some #[a,b,c,d]:=by
 have hz : (madeCells cs (1 * 4)).size = 4:=by simp [madeCells]
 generalize madeCells cs (1 * 4) = z at hz ⊢
 obtain ⟨l⟩:=z
 match l,hz with
 | [_,_,_,_],_=>
   have h1 : (Value.agg #[a,b,c,d]).cells = #[a,b,c,d]:=rfl
   simp [Instr.fill,h1]
theorem Hold.rebase {base base' : Nat} {w0 w00 w : World} {l : List Ow} (h : Hold base w0 w l) (hb : base' ≤ base) (hB : RowKit.Below base' w00 w) (hs : base' ≤ w.heap.size) : Hold base' w00 w l:=
 ⟨⟨fun i o hi=>own_mono (h.r.1 i o hi) hb,h.r.2⟩,hB,hs⟩
theorem least_boxes {w wc : World} {L s : Int} {vn ve : Value} (hw : wc = (w.alloc (.cells #[Vi L,Vi s,vn,ve] 25)).alloc (.cells #[Vi 0,Vi 0,.slice none 0 0,.slice none 0 0] 25)) : RowKit.Below w.heap.size w wc ∧ Box wc w.heap.size L s vn ve ∧ Hold (w.heap.size + 1) (w.alloc (.cells #[Vi L,Vi s,vn,ve] 25)) wc [oX 25 (w.heap.size + 1) 4 [Vi 0,Vi 0,.slice none 0 0,.slice none 0 0]]:=by
 obtain ⟨h1,h2⟩:=box_new (w:=w) (wc:=w.alloc (.cells #[Vi L,Vi s,vn,ve] 25)) rfl
 have h3:=below_alloc (w.alloc (.cells #[Vi L,Vi s,vn,ve] 25)) (.cells #[Vi 0,Vi 0,.slice none 0 0,.slice none 0 0] 25)
 have h4:=(Hold.start (w.alloc (.cells #[Vi L,Vi s,vn,ve] 25))).box (T:=25) (k:=4) #[Vi 0,Vi 0,.slice none 0 0,.slice none 0 0] rfl
 rw [← hw] at h3 h4
 rw [alloc_size] at h4
 exact ⟨below_trans h1 h3,h2.keep h3,h4⟩
set_option maxHeartbeats 4000000 in
theorem aleast_any (L s : Int) (vn ve : Value) (next : List (List Int)) (fin : List Bool) (w : World) (hm : Ma w L s next fin vn ve) (hv : validM L s next fin = 0) (h100 : next.length ≤ 3000) :
  Calls Tryz.prog 27 #[.agg #[Vi L,Vi s,vn,ve]] w fun e w'=>∃ (s' : Int) (vn' ve' : Value) (vs : List Value) (n' : List (List Int)) (f' : List Bool),e = .returned (.tuple #[.agg #[Vi L,Vi s',vn',ve'],Vi 0]) ∧ I64 s' ∧ vs.length = n'.length ∧ (∀ l ∈ n',∀ x ∈ l,I64 x) ∧ Hold w.heap.size w w' (oB ve' f' :: (nextR vn' vs n' ++ [])) ∧ Canon L s' n' f' ∧ Alike L.toNat n' f' s' next fin s:=by
 refine Sym.enter (args:=[.agg #[Vi L,Vi s,vn,ve]]) Tryz.func27 rfl rfl rfl (fun a0 hS0=>?_)
 obtain ⟨B,hBB⟩ : ∃ B,B = w.heap.size:=⟨_,rfl⟩
 refine wp_seq (seq_cut [(1,Vp B),(2,Vp (B + 1))] (· = (w.alloc (.cells #[Vi L,Vi s,vn,ve] 25)).alloc (.cells #[Vi 0,Vi 0,.slice none 0 0,.slice none 0 0] 25)) tab_ok hS0 ?_ (fun a wc hS hw=>?_))
 ·subst hBB
  refine zB rfl ?_
  refine zB rfl ?_
  rw [alloc_size]
  repeat first|refine zP rfl ?_|refine zK rfl ?_
  exact o_nil ⟨⟨rfl,rfl,trivial⟩,rfl⟩
 obtain ⟨hB,hx,h⟩:=least_boxes hw
 rw [← hBB] at hx h
 obtain ⟨wb,hwb⟩ : ∃ wb,wb = w.alloc (.cells #[Vi L,Vi s,vn,ve] 25):=⟨_,rfl⟩
 have hxb : RowKit.Below w.heap.size w wb ∧ Box wb w.heap.size L s vn ve:=box_new hwb
 have hbs : wb.heap.size = B + 1:=by rw [hwb,alloc_size,hBB]
 rw [← hwb] at h
 clear hw hB
 obtain ⟨hBb,hxb⟩:=hxb
 rw [← hBB] at hxb
 have hmb:=hm.keep hBb
 have K:=fun w' (h : RowKit.Below (B + 1) wb w')=>And.intro (hxb.keep (by rw [hbs]; exact h)) (hmb.keep (by rw [hbs]; exact h))
 obtain ⟨hs1,hL1,hn1⟩:=shape_of_valid hv
 obtain ⟨Ln,rfl⟩ : ∃ n : Nat,L = n:=⟨L.toNat,by have:=hs1.L0; omega⟩
 obtain ⟨x,hst,hgr,hxl,hacc,dead⟩:=one_facts hs1
 rw [Int.toNat_natCast] at hst hgr hacc dead
 obtain ⟨g,hg⟩ : ∃ g,g = layG Ln [⟨s,next,fin⟩]:=⟨_,rfl⟩
 rw [← hg] at hst hgr hacc dead
 obtain ⟨tot,htot⟩ : ∃ tot,tot = next.length:=⟨_,rfl⟩
 rw [← htot] at hgr hxl dead
 have htg : totG [⟨s,next,fin⟩] = tot:=by simp [totG,htot]
 obtain ⟨k1,k2⟩:=shape_ok hs1
 rw [Int.toNat_natCast] at k1
 refine wp_seq (seq_cutx (α:=(Nat × Nat) × GV) (fun v=>[(1,Vp B),(2,Vp (B + 1)),(4,Vp v.1.1)]) (fun v w'=>Hold (B + 1) wb w' (oX 55 v.1.1 1 [Vp v.1.2] :: (grR v.1.2 Ln tot g v.2 ++ [oX 25 (B + 1) 4 [Vi 0,Vi 0,.slice none 0 0,.slice none 0 0]]))) tab_ok hS ?_ (fun v a w2 hS h=>?_))
 ·obtain ⟨hx1,hm1⟩:=K _ h.b
  repeat first|refine zP rfl ?_|refine zK rfl ?_
  refine zL rfl (hx1.c0) ?_
  refine zA ([Vi Ln,Vi s,vn,ve]) rfl rfl (hx1.cells) ?_
  refine o_step rfl rfl rfl ?_
  refine Exists.intro [(0,.agg #[Vi Ln,Vi s,vn,ve])] (Exists.intro #[Vi Ln,Vi s,vn,ve] (And.intro (And.intro rfl rfl) (And.intro (by decide) (And.intro (fill4m _ _ _ _ _) ?_))))
  have ha:=below_alloc wc (.cells #[Vi Ln,Vi s,vn,ve] 25)
  have hMs:=MsIn.one (Bm:=wc.heap.size) (hm1.keep ha) ⟨cell_alloc_new rfl,cell_alloc_new rfl,cell_alloc_new rfl,cell_alloc_new rfl,trivial⟩
  have hlay:=lay_any (cm:=1) hMs (by simp) (by simp) (by omega) (by
   intro m hmm
   simp only [List.mem_cons,List.not_mem_nil,or_false] at hmm
   subst hmm
   exact ⟨k1,k2,hs1.s2⟩) (by rw [htg]; omega)
  rw [htg,← hg] at hlay
  refine zF rfl (en_lay) (hlay) ?_
  rintro e w3 ⟨gb,V,rfl,hG⟩
  refine ⟨_,rfl,?_⟩
  have h2:=(h.below ha).join hG
  have h3:=h2.box (T:=55) (k:=1) #[.pointer none] rfl
  repeat first|refine zP rfl ?_|refine zK rfl ?_
  refine zB rfl ?_
  refine zS rfl rfl (h3.r.xcell (i:=0) rfl (j:=0) rfl) (h3.r.free (i:=0) rfl 0) ?_
  exact o_nil ⟨((_,gb),V),⟨rfl,rfl,rfl,trivial⟩,h3.xstore (i:=0) rfl 0 _⟩
 obtain ⟨⟨gv,b⟩,GVa⟩:=v
 simp only at hS h
 replace h:=h.perm (List.perm_append_comm (l₁:=[oX 55 gv 1 [Vp b]]) (l₂:=grR b Ln tot g GVa ++ [oX 25 (B + 1) 4 [Vi 0,Vi 0,.slice none 0 0,.slice none 0 0]]))
 rw [List.append_assoc] at h
 refine wp_seq (seq_cutx (α:=(Nat × Nat) × Pt × (Nat → Nat → Nat) × Nat) (fun v=>[(1,Vp B),(2,Vp (B + 1)),(4,Vp gv),(5,Vp v.1.1)]) (fun v w'=>RefS Ln (tot + 1) g.nx g.en v.2.1 v.2.2.1 v.2.2.2 ∧ ∃ V,Hold (B + 1) wb w' (oX 57 v.1.1 1 [Vp v.1.2] :: (ptR v.1.2 v.2.1 V ++ (grR b Ln tot g GVa ++ ([oX 25 (B + 1) 4 [Vi 0,Vi 0,.slice none 0 0,.slice none 0 0]] ++ [oX 55 gv 1 [Vp b]]))))) tab_ok hS ?_ (fun v a w3 hS h=>?_))
 ·have hgc:=h.r.xcell (i:=5) rfl (j:=0) rfl
  repeat first|refine zP rfl ?_|refine zK rfl ?_
  refine zL rfl (hgc) ?_
  refine zF rfl (en_refine) (refine_any h hgr (by omega) (by omega)) ?_
  rintro e w4 ⟨pb,p,lev,R,rfl,hR,V,h2⟩
  refine ⟨_,rfl,?_⟩
  have h3:=h2.box (T:=57) (k:=1) #[.pointer none] rfl
  repeat first|refine zP rfl ?_|refine zK rfl ?_
  refine zB rfl ?_
  refine zS rfl rfl (h3.r.xcell (i:=0) rfl (j:=0) rfl) (h3.r.free (i:=0) rfl 0) ?_
  exact o_nil ⟨((_,pb),p,lev,R),⟨rfl,rfl,rfl,rfl,trivial⟩,hR,V,h3.xstore (i:=0) rfl 0 _⟩
 obtain ⟨⟨pv,pb⟩,p,lev,R⟩:=v
 simp only at hS h
 obtain ⟨hR,V,h⟩:=h
 refine wp_seq (seq_cutx (α:=Nat) (fun sv=>[(1,Vp B),(2,Vp (B + 1)),(4,Vp gv),(5,Vp pv),(6,Vp sv)]) (fun sv w'=>Hold (B + 1) wb w' (oX 25 (B + 1) 4 [Vi 0,Vi 0,.slice none 0 0,.slice none 0 0] :: leR pv gv sv pb b Ln tot p g V GVa)) tab_ok hS ?_ (fun sv a w4 hS h=>?_))
 ·have h3:=h.box (T:=92) (k:=1) #[.nilFunc] rfl
  repeat first|refine zP rfl ?_|refine zK rfl ?_
  refine zB rfl ?_
  refine zS rfl rfl (h3.r.xcell (i:=0) rfl (j:=0) rfl) (h3.r.free (i:=0) rfl 0) ?_
  refine o_nil ⟨_,⟨rfl,rfl,rfl,rfl,rfl,trivial⟩,(h3.xstore (i:=0) rfl 0 (.func (.func 54) #[] #[Vp pv])).perm ?_⟩
  show List.Perm (_ :: _ :: (ptR pb p V ++ (grR b Ln tot g GVa ++ [oX 25 (B + 1) 4 [Vi 0,Vi 0,.slice none 0 0,.slice none 0 0],oX 55 gv 1 [Vp b]]))) (oX 25 (B + 1) 4 [Vi 0,Vi 0,.slice none 0 0,.slice none 0 0] :: _ :: oX 55 gv 1 [Vp b] :: _ :: (ptR pb p V ++ (grR b Ln tot g GVa ++ [])))
  have e1:=List.perm_append_comm (l₁:=ptR pb p V ++ grR b Ln tot g GVa) (l₂:=[oX 25 (B + 1) 4 [Vi 0,Vi 0,.slice none 0 0,.slice none 0 0],oX 55 gv 1 [Vp b]])
  rw [List.append_assoc] at e1
  refine ((e1.cons _).cons _).trans ?_
  rw [List.append_nil]
  show List.Perm (_ :: _ :: oX 25 (B + 1) 4 [Vi 0,Vi 0,.slice none 0 0,.slice none 0 0] :: oX 55 gv 1 [Vp b] :: (ptR pb p V ++ grR b Ln tot g GVa)) (oX 25 (B + 1) 4 [Vi 0,Vi 0,.slice none 0 0,.slice none 0 0] :: _ :: oX 55 gv 1 [Vp b] :: _ :: (ptR pb p V ++ grR b Ln tot g GVa))
  refine ((List.Perm.swap _ _ _).cons _).trans ((List.Perm.swap _ _ _).trans (.cons _ ?_))
  exact ((List.Perm.swap _ _ _).trans ((List.Perm.swap _ _ _).cons _))
 refine wp_seq (seq_cut [(1,Vp B),(2,Vp (B + 1)),(4,Vp gv),(5,Vp pv),(6,Vp sv),(7,.func (.func 55) #[] #[Vp pv,Vp gv,Vp sv])] (· = w4) tab_ok hS ?_ (fun a w5 hS hw=>?_))
 ·repeat first|refine zP rfl ?_|refine zK rfl ?_
  exact o_nil ⟨⟨rfl,rfl,rfl,rfl,rfl,rfl,trivial⟩,rfl⟩
 subst hw
 refine wp_seq (seq_cut [(1,Vp B),(2,Vp (B + 1)),(4,Vp gv),(5,Vp pv),(7,.func (.func 55) #[] #[Vp pv,Vp gv,Vp sv]),(8,.func (.func 56) #[] #[Vp gv,Vp sv])] (· = w5) tab_ok hS ?_ (fun a w6 hS hw=>?_))
 ·repeat first|refine zP rfl ?_|refine zK rfl ?_
  exact o_nil ⟨⟨rfl,rfl,rfl,rfl,rfl,rfl,trivial⟩,rfl⟩
 subst hw
 obtain ⟨nb,hnb⟩ : ∃ nb,nb = gt p.bl tot:=⟨_,rfl⟩
 obtain ⟨x0,hx0⟩ : ∃ x0,x0 = gt p.bl x:=⟨_,rfl⟩
 have hbl:=hR.pi.bl
 have hx0l : x0 < p.bs.length:=by rw [hx0]; exact hR.pi.ib x hxl
 have hfew:=hR.pi.few
 obtain ⟨F,hF⟩ : ∃ F,foundM (cd nb x0) (quoN Ln g.nx p nb) Ln = F:=⟨_,rfl⟩
 have hgl : g.st.length = 1:=by rw [hst]; rfl
 have hg0 : gt g.st 0 = x:=by rw [hst]; rfl
 refine wp_seq (any_cutx (α:=Value × Value × List Value) 29 (fun _=>[(2,Vp (B + 1)),(3,Vi 0)]) (fun v w'=>v.2.2.length = (F.rows.map (renumM F.place (quoN Ln g.nx p nb) Ln)).length ∧ (∀ l ∈ (F.rows.map (renumM F.place (quoN Ln g.nx p nb) Ln)),∀ x ∈ l,I64 x) ∧ Found (cd nb x0) (quoN Ln g.nx p nb) Ln F ∧ Hold (B + 1) wb w' (oX 25 (B + 1) 4 [Vi Ln,Vi (if F.rows.length = 0 then -1 else 0 : Int),v.1,v.2.1] :: oB v.2.1 (foundFin F (quoF g.en p)) :: (nextR v.1 v.2.2 (F.rows.map (renumM F.place (quoN Ln g.nx p nb) Ln)) ++ leR pv gv sv pb b Ln tot p g V GVa))) mixed hS ?_ (fun v a w7 hS h=>?_))
 ·obtain ⟨hx1,-⟩:=K _ h.b
  obtain ⟨vst,vpl,vbl,vbs,vcs,vml⟩:=V
  obtain ⟨gst,gnx,gen⟩:=GVa
  obtain ⟨gbl,cbl,rfl,-⟩:=h.r.nilOr (i:=7) rfl (by omega)
  obtain ⟨gs,cs,rfl,-⟩:=h.r.nilOr (i:=12) rfl (by omega)
  have hy : RowKit.Below w6.drew.heap.size w6.drew w6.drew:=RowKit.Below.refl _ _
  have hD:=h.drew
  have c0:=hD.r.cN (i:=12) rfl (j:=0) (by omega)
  rw [hg0] at c0
  have c1:=hD.r.cN (i:=7) rfl (j:=x) (by omega)
  rw [← hx0] at c1
  have c2:=hD.r.cN (i:=7) rfl (j:=tot) (by omega)
  rw [← hnb] at c2
  refine yL 0 tab_ok rfl (by kernel_rfl) hy rfl rfl (hD.r.xcell (i:=1) rfl (j:=0) rfl) ?_
  refine yT 1 tab_ok rfl (by kernel_rfl) hy rfl (rfl) ?_
  refine yT 2 tab_ok rfl (by kernel_rfl) hy rfl (rfl) ?_
  refine yL 3 tab_ok rfl (by kernel_rfl) hy rfl rfl (hD.r.xcell (i:=4) rfl (j:=2) rfl) ?_
  refine yL 4 tab_ok rfl (by kernel_rfl) hy rfl rfl (hD.r.xcell (i:=2) rfl (j:=0) rfl) ?_
  refine yT 5 tab_ok rfl (by kernel_rfl) hy rfl (rfl) ?_
  refine yT 6 tab_ok rfl (by kernel_rfl) hy rfl (rfl) ?_
  refine yL 7 tab_ok rfl (by kernel_rfl) hy rfl rfl (hD.r.xcell (i:=11) rfl (j:=1) rfl) ?_
  refine yT 8 tab_ok rfl (by kernel_rfl) hy rfl (Exists.intro _ (And.intro (show (0 : Int) = ((0 : Nat) : Int) from rfl) (And.intro ((by omega)) rfl))) ?_
  refine yL 9 tab_ok rfl (by kernel_rfl) hy rfl rfl (c0) ?_
  refine yT 10 tab_ok rfl (by kernel_rfl) hy rfl (Exists.intro _ (And.intro (rfl) (And.intro ((by omega)) rfl))) ?_
  refine yL 11 tab_ok rfl (by kernel_rfl) hy rfl rfl (c1) ?_
  refine yL 12 tab_ok rfl (by kernel_rfl) hy rfl rfl (hD.r.xcell (i:=1) rfl (j:=0) rfl) ?_
  refine yT 13 tab_ok rfl (by kernel_rfl) hy rfl (rfl) ?_
  refine yT 14 tab_ok rfl (by kernel_rfl) hy rfl (rfl) ?_
  refine yL 15 tab_ok rfl (by kernel_rfl) hy rfl rfl (hD.r.xcell (i:=4) rfl (j:=2) rfl) ?_
  refine yL 16 tab_ok rfl (by kernel_rfl) hy rfl rfl (hD.r.xcell (i:=2) rfl (j:=0) rfl) ?_
  refine yT 17 tab_ok rfl (by kernel_rfl) hy rfl (rfl) ?_
  refine yT 18 tab_ok rfl (by kernel_rfl) hy rfl (rfl) ?_
  refine yL 19 tab_ok rfl (by kernel_rfl) hy rfl rfl (hD.r.xcell (i:=11) rfl (j:=4) rfl) ?_
  refine yT 20 tab_ok rfl (by kernel_rfl) hy rfl (Exists.intro _ (And.intro (rfl) (And.intro ((by omega)) rfl))) ?_
  refine yL 21 tab_ok rfl (by kernel_rfl) hy rfl rfl (c2) ?_
  refine yT 22 tab_ok rfl (by kernel_rfl) hy rfl (rfl) ?_
  refine yL 23 tab_ok rfl (by kernel_rfl) hy rfl rfl (hx1.c0) ?_
  refine yT 24 tab_ok rfl (by kernel_rfl) hy rfl (rfl) ?_
  refine yT 25 tab_ok rfl (by kernel_rfl) hy rfl (rfl) ?_
  refine y_one 26 (by kernel_rfl) (y_op 26 tab_ok rfl rfl rfl rfl ?_)
  have hbu:=buildI_any (rest:=[]) (n:=p.bs.length) (nb:=nb) (x0:=x0) (L:=Ln) (lim:=4000) (S:=55) (S2:=56) (caps:=#[Vp pv,Vp gv,Vp sv]) (caps2:=#[Vp gv,Vp sv]) (next:=quoN Ln g.nx p nb) (fin:=quoF g.en p) (s0:=0) (F:=F) (Hold.start w6.drew) (by omega) (by simp [quoN]) hx0l (by omega) (by omega) (by omega) (quo_shape hR hgr) en_least2 en_least3
   (fun y c w1 hy hc hw1=>(least2_any (hD.below hw1.b).tail hR hgr (by omega) (by omega) hy hc).mono (fun e w2 h2=>⟨_,hR.pi.ib _ (hgr.lt _ c (rep_lt hR hy).1 hc),h2.1,quo_tgt hR hy hc,h2.2⟩))
   (fun y w1 hy hw1=>least3_any (hD.below hw1.b).tail hR hgr (by omega) hy) hF
  refine And.intro en_buildI (hbu.mono ?_)
  rintro e w8 ⟨vn',ve',vs,rfl,hFo,hvs,hI64,hH⟩
  refine ⟨_,rfl,?_⟩
  refine And.intro (.inr hH.b) ?_
  obtain ⟨ge,ce,rfl,-⟩:=hH.r.any (i:=0) rfl
  obtain ⟨gn,cn,hvn,-⟩:=hH.r.any (i:=1) (v:=vn') (e:=35) (s:=1) (n:=vs.length) (xs:=vs) rfl
  subst hvn
  have h9:=hD.join hH
  rw [List.append_nil] at h9
  have h10:=h9.perm (List.perm_middle (a:=oX 25 (B + 1) 4 [Vi 0,Vi 0,.slice none 0 0,.slice none 0 0]) (l₁:=oB (.slice ge (foundFin F (quoF g.en p)).length ce) (foundFin F (quoF g.en p)) :: nextR (.slice gn vs.length cn) vs (F.rows.map (renumM F.place (quoN Ln g.nx p nb) Ln))))
  have hHb:=hH.b
  refine yT 27 tab_ok rfl (by kernel_rfl) hHb rfl (rfl) ?_
  refine yT 28 tab_ok rfl (by kernel_rfl) hHb rfl (rfl) ?_
  refine y_one 29 (by kernel_rfl) (y_op0 29 tab_ok rfl rfl rfl ?_)
  refine And.intro rfl (And.intro rfl (And.intro (x_cells4 h10.r (i:=0) rfl) (And.intro (.inl (by kernel_rfl)) ?_)))
  refine yG 30 tab_ok rfl (by kernel_rfl) (.inl (by kernel_rfl)) rfl rfl ?_
  exact y_endx (.slice gn vs.length cn,.slice ge (foundFin F (quoF g.en p)).length ce,vs) (by kernel_rfl) ⟨rfl,rfl,trivial⟩ ⟨by simpa using hvs,hI64,hFo,h10.xput4 (i:=0) rfl _ _ _ _⟩
 obtain ⟨vn',ve',vs⟩:=v
 simp only at hS h
 obtain ⟨hvs,hI64,hFo,h⟩:=h
 have hcan:=quo_canon hR hgr (by omega) hnb dead hxl (F:=F) (by rw [← hx0]; exact hF) (by rw [← hx0]; exact hFo)
 have hst : I64 (if F.rows.length = 0 then -1 else 0 : Int):=by unfold I64; split <;> omega
 have hrow : Hold w.heap.size w w7 (oB ve' (foundFin F (quoF g.en p)) :: (nextR vn' vs (F.rows.map (renumM F.place (quoN Ln g.nx p nb) Ln)) ++ [])):=by
  have h1:=h.tail.perm (l':=leR pv gv sv pb b Ln tot p g V GVa ++ (oB ve' (foundFin F (quoF g.en p)) :: nextR vn' vs (F.rows.map (renumM F.place (quoN Ln g.nx p nb) Ln)))) (List.perm_append_comm (l₁:=oB ve' (foundFin F (quoF g.en p)) :: nextR vn' vs (F.rows.map (renumM F.place (quoN Ln g.nx p nb) Ln))))
  rw [List.append_nil]
  exact (h1.drop).rebase (by omega) (below_trans hBb (by rw [hbs]; exact h.b)) (by have:=h.s; omega)
 refine wp_ret ?_
 repeat (first | refine then_ret ?_ | refine block_ret ?_)
 refine retc2 tab_ok hS rfl rfl rfl rfl rfl (o:=0) (vs:=[Vi Ln,Vi (if F.rows.length = 0 then -1 else 0 : Int),vn',ve']) ⟨h.r.xcell (i:=0) rfl (j:=0) rfl,h.r.xcell (i:=0) rfl (j:=1) rfl,h.r.xcell (i:=0) rfl (j:=2) rfl,h.r.xcell (i:=0) rfl (j:=3) rfl,trivial⟩ rfl ⟨_,vn',ve',vs,_,_,rfl,hst,hvs,hI64,hrow,hcan.1,fun w hw=>?_⟩
 rw [Int.toNat_natCast] at hw
 rw [hcan.2 w hw]; exact hacc w hw
theorem aLeast_c : LeastC 12:=fun L s vn ve next fin w hm h100=>by
 refine Sym.enter (args:=[.agg #[Vi L,Vi s,vn,ve]]) Tryz.func12 rfl rfl rfl (fun a0 hS0=>?_)
 obtain ⟨B,hBB⟩ : ∃ B,B = w.heap.size:=⟨_,rfl⟩
 refine wp_seq (seq_cut [(1,Vp B),(2,Vp (B + 1))] (· = (w.alloc (.cells #[Vi L,Vi s,vn,ve] 25)).alloc (.cells #[Vi 0,Vi 0,.slice none 0 0,.slice none 0 0] 25)) tab_ok hS0 ?_ (fun a wc hS hw=>?_))
 ·subst hBB
  refine zB rfl ?_
  refine zB rfl ?_
  rw [alloc_size]
  repeat first|refine zP rfl ?_|refine zK rfl ?_
  exact o_nil ⟨⟨rfl,rfl,trivial⟩,rfl⟩
 obtain ⟨hB,hx,h⟩:=least_boxes hw
 rw [← hBB] at hx h
 obtain ⟨wb,hwb⟩ : ∃ wb,wb = w.alloc (.cells #[Vi L,Vi s,vn,ve] 25):=⟨_,rfl⟩
 have hBb : RowKit.Below w.heap.size w wb:=by rw [hwb]; exact below_alloc _ _
 have hbs : wb.heap.size = B + 1:=by rw [hwb,alloc_size,hBB]
 rw [← hwb] at h
 clear hw
 replace hm:=hm.keep hB
 refine wp_seq (wp_seq (seq_cut [(1,Vp B),(2,Vp (B + 1)),(6,.bool (decide (validM L s next fin ≠ 0)))] (fun w'=>RowKit.Below wc.heap.size wc w') tab_ok hS ?_ (fun a w2 hS hw=>?_)))
 ·refine zA ([Vi L,Vi s,vn,ve]) rfl rfl (hx.cells) ?_
  refine zF rfl (en_aValid) (aValid_any L s vn ve next fin wc hm) ?_
  rintro e w3 ⟨rfl,h3⟩
  refine ⟨_,rfl,?_⟩
  refine zC rfl (rfl) ?_
  repeat first|refine zP rfl ?_|refine zK rfl ?_
  exact o_nil ⟨⟨rfl,rfl,rfl,trivial⟩,h3⟩
 replace hx:=hx.keep hw
 replace hm:=hm.keep hw
 replace h:=h.below hw
 clear hw
 have outB : ∀ {w'},RowKit.Below (B + 1) wb w' → RowKit.Below w.heap.size w w':=fun h=>below_trans hBb (by rw [hbs]; exact h)
 refine cond hS rfl (fun hT=>?_) (fun hF=>wp_skip ?_)
 ·refine wp_seq (seq_cut [(2,Vp (B + 1)),(3,Vi 1)] (fun w'=>Hold (B + 1) wb w' [oX 25 (B + 1) 4 [Vi 0,Vi 0,.slice none 0 0,.slice none 0 0]]) tab_ok hS ?_ (fun a w3 hS h=>?_))
  ·repeat first|refine zP rfl ?_|refine zK rfl ?_
   refine o_step0 rfl rfl (And.intro rfl (And.intro rfl (And.intro (x_cells4 h.r (i:=0) rfl) ?_)))
   repeat first|refine zP rfl ?_|refine zK rfl ?_
   exact o_nil ⟨⟨rfl,rfl,trivial⟩,h.xput4 (i:=0) rfl _ _ _ _⟩
  refine wp_ret ?_
  repeat (first | refine then_ret ?_ | refine block_ret ?_)
  refine retc2 tab_ok hS rfl rfl rfl rfl rfl (o:=0) (vs:=[Vi 0,Vi 0,.slice none 0 0,.slice none 0 0]) ⟨h.r.xcell (i:=0) rfl (j:=0) rfl,h.r.xcell (i:=0) rfl (j:=1) rfl,h.r.xcell (i:=0) rfl (j:=2) rfl,h.r.xcell (i:=0) rfl (j:=3) rfl,trivial⟩ rfl ⟨0,0,1,_,_,[],[],rfl,?_,outB h.b,.inl ⟨of_decide_eq_true hT,rfl,rfl,rfl,rfl,rfl⟩⟩
  exact ⟨⟨none,0,0,0,rfl,by simp,by simp,by omega,fun i hi=>by simp at hi⟩,⟨none,0,0,0,rfl,by simp,by simp,by omega,fun i hi=>by simp at hi⟩,by unfold I64; omega,by unfold I64; omega,.inl (.inl rfl),.inl (.inl rfl)⟩
 have hv:=Decidable.not_not.1 (of_decide_eq_false hF)
 refine wp_seq (seq_cutx (α:=Int × Value × Value × List Value × List (List Int) × List Bool) (fun _=>[(2,Vp (B + 1)),(3,Vi 0)]) (fun v w'=>I64 v.1 ∧ v.2.2.2.1.length = v.2.2.2.2.1.length ∧ (∀ l ∈ v.2.2.2.2.1,∀ x ∈ l,I64 x) ∧ Canon L v.1 v.2.2.2.2.1 v.2.2.2.2.2 ∧ Alike L.toNat v.2.2.2.2.1 v.2.2.2.2.2 v.1 next fin s ∧ Hold (B + 1) wb w' (oX 25 (B + 1) 4 [Vi L,Vi v.1,v.2.1,v.2.2.1] :: oB v.2.2.1 v.2.2.2.2.2 :: (nextR v.2.1 v.2.2.2.1 v.2.2.2.2.1 ++ []))) tab_ok hS ?_ (fun v a w3 hS hw=>?_))
 ·refine zA ([Vi L,Vi s,vn,ve]) rfl rfl (hx.cells) ?_
  refine zF rfl (en_aleast) (aleast_any L s vn ve next fin w2 hm hv (by omega)) ?_
  rintro e w3 ⟨s',vn',ve',vs,n',f',rfl,hs',hvs,hI64,hH,hcan,hal⟩
  refine ⟨_,rfl,?_⟩
  obtain ⟨ge,ce,rfl,-⟩:=hH.r.any (i:=0) rfl
  obtain ⟨gn,cn,hvn,-⟩:=hH.r.any (i:=1) (v:=vn') (e:=35) (s:=1) (n:=vs.length) (xs:=vs) rfl
  subst hvn
  have h9:=(h.join hH).perm (List.perm_append_comm (l₂:=[oX 25 (B + 1) 4 [Vi 0,Vi 0,.slice none 0 0,.slice none 0 0]]))
  repeat first|refine zP rfl ?_|refine zK rfl ?_
  refine o_step0 rfl rfl (And.intro rfl (And.intro rfl (And.intro (x_cells4 h9.r (i:=0) rfl) ?_)))
  repeat first|refine zP rfl ?_|refine zK rfl ?_
  exact o_nil ⟨(s',.slice gn vs.length cn,.slice ge f'.length ce,vs,n',f'),⟨rfl,rfl,trivial⟩,hs',hvs,hI64,hcan,hal,h9.xput4 (i:=0) rfl _ _ _ _⟩
 obtain ⟨s',vn',ve',vs,n',f'⟩:=v
 simp only at hw
 obtain ⟨hs',hvs,hI64,hcan,hal,h⟩:=hw
 have hmF:=ma_rows (L:=L) (s:=s') h.tail hvs hI64 hm.L hs'
 refine wp_ret ?_
 repeat (first | refine then_ret ?_ | refine block_ret ?_)
 exact retc2 tab_ok hS rfl rfl rfl rfl rfl (o:=0) (vs:=[Vi L,Vi s',vn',ve']) ⟨h.r.xcell (i:=0) rfl (j:=0) rfl,h.r.xcell (i:=0) rfl (j:=1) rfl,h.r.xcell (i:=0) rfl (j:=2) rfl,h.r.xcell (i:=0) rfl (j:=3) rfl,trivial⟩ rfl ⟨L,s',0,vn',ve',n',f',rfl,hmF,outB h.b,.inr ⟨hv,rfl,rfl,hcan,hal⟩⟩
end Go.Proofs.YthcoppfiahnpoaaGreat
namespace Go.Proofs.YthcoppfiahnpoaaGreat
open Go Sym
theorem en_newFinderP : enters Tryz.prog 35 = true:=by kernel_rfl
theorem en_numberP : enters Tryz.prog 67 = true:=by kernel_rfl
abbrev pairV (x : Int × Int) : Value:=.agg #[Vi x.1,Vi x.2]
theorem laidOutL : laidOutB Tryz.prog = true:=by kernel_rfl
theorem row_pair : (48 : TypeId) < Tryz.prog.types.size:=of_decide_eq_true (by kernel_rfl)
theorem key_pair2 : Tryz.prog.keyTypeAt 2 48 = true:=by kernel_rfl
theorem key_pair : Tryz.prog.keyType 48 = true:=by kernel_rfl
theorem cells_pair : Tryz.prog.cellsOf 48 = 2:=by kernel_rfl
theorem cells_int' : Tryz.prog.cellsOf 3 = 1:=by kernel_rfl
theorem pairLaw : WideMaps.KeyLaw Tryz.prog 48:=deep_law_laid laidOutL (m:=2) (by omega) row_pair key_pair2 (by rw [Tryz.underlying48])
theorem pairK : Maps.Keyed Tryz.prog 48:=Maps.Keyed.of_law pairLaw
theorem und_mapP : Tryz.prog.underlying 76 = some (.map 48 3):=by kernel_rfl
noncomputable def pairL (x : Int × Int) : Lit:=(keyOf Tryz.prog 48 (pairV x)).getD (.bool false)
theorem pair_key (x : Int × Int) (h1 : (Lit.int .i64 x.1).wf = true) (h2 : (Lit.int .i64 x.2).wf = true) : keyOf Tryz.prog 48 (pairV x) = some (pairL x):=by
 have hs : (keyOf Tryz.prog 48 (pairV x)).isSome = true:=by
  have hu:=Tryz.underlying48
  obtain ⟨n,hn⟩ : ∃ n,Tryz.prog.types.size = n + 1:=⟨Tryz.prog.types.size - 1,by have h : (0 : Nat) < Tryz.prog.types.size:=Nat.lt_of_le_of_lt (Nat.zero_le _) row_pair; omega⟩
  have hc : (pairV x).cells.toList = [Vi x.1,Vi x.2]:=rfl
  simp [keyOf,hu,key_pair,Value.formed,cells_pair,hc,hn,Program.keyLits,cells_int',h1,h2]
 obtain ⟨l,hl⟩:=Option.isSome_iff_exists.1 hs
 rw [pairL,hl]; rfl
theorem pairL_inj (x : Int × Int) (h1 : (Lit.int .i64 x.1).wf = true) (h2 : (Lit.int .i64 x.2).wf = true) : ∀ y,pairL y = pairL x → y = x:=fun y h=>by
 have hx:=pair_key x h1 h2
 obtain ⟨s,hs⟩:=pairLaw.str hx
 cases hy : keyOf Tryz.prog 48 (pairV y) with
 | none=>
   rw [pairL,hy,hs] at h
   cases h
 | some l=>
   rw [pairL,hy] at h
   have h : l = pairL x:=h
   rw [← h] at hx
   have:=pairLaw.inj hy hx
   simp only [pairV,Value.agg.injEq,Array.mk.injEq,List.cons.injEq,Value.int.injEq,true_and,and_true] at this
   exact Prod.ext this.1 this.2
abbrev oP (v : Value) (l : List (Int × Int)) : Ow:=⟨v,48,2,l.length,pairCells l⟩
abbrev inR (W n : Nat) (x : Int × Int) : Prop:=-1 ≤ x.1 ∧ -1 ≤ x.2 ∧ x.2 + 1 < W ∧ x.1 ≤ 5000 ∧ W ≤ 5001 ∧ plc W x.1 x.2 < n
def cdP (W : Nat) (x : Int × Int) : Int:=if x.1 < 0 ∧ x.2 < 0 then -1 else (plc W x.1 x.2 : Int)
def plfP (W n : Nat) (s : FS) (x : Int × Int) : Option Nat:=if inR W n x then plf s (plc W x.1 x.2) else none
theorem inR.wf {W n : Nat} {x : Int × Int} (h : inR W n x) : (Lit.int .i64 x.1).wf = true ∧ (Lit.int .i64 x.2).wf = true:=by
 obtain ⟨h1,h2,h3,h4,h5,-⟩:=h
 simp only [Lit.wf,Bool.and_eq_true,decide_eq_true_eq,IntKind.min,IntKind.max,IntKind.bits,IntKind.signed]
 refine ⟨⟨?_,?_⟩,?_,?_⟩ <;> simp <;> omega
theorem cdP_lt {W n : Nat} {x : Int × Int} (h : inR W n x) : -1 ≤ cdP W x ∧ cdP W x < n:=by
 have:=h.2.2.2.2.2
 unfold cdP; split <;> omega
def FindP (base : Nat) (w0 w : World) (fb W n : Nat) (s : FS) (rest : List Ow) : Prop:=
 ∃ (mb : Nat) (vf : Value) (xs : List (Int × Int)),Hold base w0 w (findX 78 fb [Vi (-1),Vi (-1)] mb vf :: oP vf xs :: rest) ∧ s.rows = xs.map (fun x=>(plc W x.1 x.2 : Int)) ∧ MapF pairL 48 w mb xs.length (plfP W n s) ∧ base ≤ mb ∧ ∀ x ∈ xs,inR W n x
section
variable {base : Nat} {w0 w w' : World} {rest : List Ow}
theorem FindP.below {fb W n : Nat} {s : FS} (h : FindP base w0 w fb W n s rest) (hb : RowKit.Below w.heap.size w w') : FindP base w0 w' fb W n s rest:=by
 obtain ⟨mb,vf,xs,h1,h2,h3,h4⟩:=h
 exact ⟨mb,vf,xs,h1.below hb,h2,h3.below hb,h4⟩
theorem newFinderP_any (h : Hold base w0 w rest) (W n : Nat) :
  Calls Tryz.prog 35 #[.agg #[Vi (-1),Vi (-1)]] w fun e w'=>∃ fb,e = .returned (Vp fb) ∧ FindP base w0 w' fb W n (FS.none n) rest:=by
 refine Sym.enter (args:=[.agg #[Vi (-1),Vi (-1)]]) Tryz.func35 rfl rfl rfl (fun a0 hS0=>?_)
 obtain ⟨N,hN⟩ : ∃ N,N = w.heap.size:=⟨_,rfl⟩
 refine wp_seq (seq_cut [(1,Vp N)] (· = w.alloc (.cells #[Vi (-1),Vi (-1)] 48)) tab_ok hS0 ?_ (fun a w1 hS hw=>?_))
 ·subst hN
  refine zB rfl ?_
  repeat first|refine zP rfl ?_|refine zK rfl ?_
  exact o_nil ⟨⟨rfl,trivial⟩,rfl⟩
 have hp : BoxP w1 N (-1) (-1):=by rw [hw,hN]; exact BoxP.new _ _ _ _
 replace h:=h.alloc (.cells #[Vi (-1),Vi (-1)] 48)
 rw [← hw] at h
 clear hw
 refine wp_seq (seq_cutx (α:=Nat) (fun fb=>[(2,Vp fb)]) (fun fb w'=>FindP base w0 w' fb W n (FS.none n) rest) tab_ok hS ?_ (fun fb a w2 hS hw=>?_))
 ·have hm:=MapF.made pairL 48 w1
  have h1:=(h.alloc (.map #[] 0)).nil 48 2
  have h2:=h1.box (T:=78) (k:=4) #[Vi (-1),Vi (-1),.map (some w1.heap.size),.slice none 0 0] rfl
  refine zA ([Vi (-1),Vi (-1)]) rfl rfl (hp.cells) ?_
  refine zB rfl ?_
  repeat first|refine zP rfl ?_|refine zK rfl ?_
  refine zB rfl ?_
  repeat first|refine zP rfl ?_|refine zK rfl ?_
  refine o_nil ⟨_,⟨rfl,trivial⟩,w1.heap.size,.slice none 0 0,[],h2,rfl,?_,h.s,fun x hx=>by cases hx⟩
  have e : plfP W n (FS.none n) = fun _=>none:=by
   funext x
   unfold plfP
   rw [plf_none]; split <;> rfl
  rw [e]
  exact hm.below (below_alloc _ _)
 refine wp_ret ?_
 repeat (first | refine then_ret ?_ | refine block_ret ?_)
 exact ret1 hS rfl rfl ⟨fb,rfl,hw⟩
theorem numP_rows {W n : Nat} {s : FS} {x : Int × Int} (hI : FIn n s) (hx : inR W n x) (hne : ¬ (x.1 < 0 ∧ x.2 < 0)) (h0 : s.place.getD (plc W x.1 x.2) (-1) < 0) : (s.num (cdP W x)).rows = s.rows ++ [(plc W x.1 x.2 : Int)] ∧ plcM (s.num (cdP W x)).place (cdP W x) = s.rows.length ∧ plfP W n (s.num (cdP W x)) = fun y=>if y = x then some s.rows.length else plfP W n s y:=by
 obtain ⟨nb,hnb⟩ : ∃ nb,nb = plc W x.1 x.2 + 1:=⟨_,rfl⟩
 have hc : cdP W x = cd nb (plc W x.1 x.2):=by rw [cdP,if_neg hne,cd,if_neg (by omega)]
 obtain ⟨k1,k2,k3⟩:=num_rows (nb:=nb) hI hx.2.2.2.2.2 (by omega) h0
 rw [hc]
 refine ⟨k1,k2,?_⟩
 funext y
 unfold plfP
 rw [k3]
 by_cases ey : y = x
 ·subst ey
  rw [if_pos hx,if_pos rfl]
  exact if_pos rfl
 ·rw [if_neg ey]
  by_cases hy : inR W n y
  ·rw [if_pos hy,if_pos hy]
   dsimp only
   rw [if_neg]
   intro e
   obtain ⟨e1,e2⟩:=plc_inj hy.1 hy.2.1 hx.1 hx.2.1 hy.2.2.1 hx.2.2.1 e
   exact ey (Prod.ext e1 e2)
  ·rw [if_neg hy,if_neg hy]
theorem numP_known {W n : Nat} {s : FS} {x : Int × Int} (hI : FIn n s) (hx : inR W n x) (hne : ¬ (x.1 < 0 ∧ x.2 < 0)) (h0 : ¬ s.place.getD (plc W x.1 x.2) (-1) < 0) : s.num (cdP W x) = s ∧ plcM s.place (cdP W x) = (((plfP W n s x).getD 0 : Nat) : Int):=by
 obtain ⟨nb,hnb⟩ : ∃ nb,nb = plc W x.1 x.2 + 1:=⟨_,rfl⟩
 have hc : cdP W x = cd nb (plc W x.1 x.2):=by rw [cdP,if_neg hne,cd,if_neg (by omega)]
 obtain ⟨k1,k2⟩:=num_known (nb:=nb) hI hx.2.2.2.2.2 (by omega) h0
 rw [hc,plfP,if_pos hx]
 exact ⟨k1,k2⟩
set_option maxHeartbeats 2000000 in
theorem numP_r7 {fb mb B : Nat} {x : Int × Int} {vf : Value} {xs : List (Int × Int)} {f : Int × Int → Option Nat} {m : Nat} (h : Hold base w0 w (findX 78 fb [Vi (-1),Vi (-1)] mb vf :: oP vf xs :: rest)) (hm : MapF pairL 48 w mb m f) (hp : BoxP w B x.1 x.2) (hl : xs.length ≤ 100000000) {z : Int}
  {Q : Exit → Act → World → Prop} {a : Act} {ops : Array Oper} {id : Nat} (hops : Sym.regionOf Tryz.f67.body 7 = some (id,ops))
  (hS : St Tryz.f67.ntmps a [(0,Vp fb),(3,Vp B),(5,Vi z)])
  (hq : ∀ vf' a' w',St Tryz.f67.ntmps a' [(5,Vi z)] → Hold base w0 w' (findX 78 fb [Vi (-1),Vi (-1)] mb vf' :: oP vf' (xs ++ [x]) :: rest) ∧ MapF pairL 48 w' mb m f → Q .normal a' w') : (Code.region id ops true).wp Tryz.prog Q a w:=by
 cases hops
 refine any_cutx (α:=Value) 7 (fun _=>[(5,Vi z)]) (fun vf' w'=>Hold base w0 w' (findX 78 fb [Vi (-1),Vi (-1)] mb vf' :: oP vf' (xs ++ [x]) :: rest) ∧ MapF pairL 48 w' mb m f) mixed hS ?_ hq
 obtain ⟨gs,cs,rfl,hc⟩:=h.r.any (i:=1) rfl
 have hy : RowKit.Below w.drew.heap.size w.drew w.drew:=RowKit.Below.refl _ _
 have hd : RowKit.Below w.heap.size w w.drew:=(RowKit.Below.refl _ _).drew
 have hD:=h.drew
 have hmD:=hm.below hd
 have hpD:=hp.keep hd
 refine yG 0 tab_ok rfl (by kernel_rfl) (.inr hy) rfl rfl ?_
 refine yT 1 tab_ok rfl (by kernel_rfl) hy rfl (rfl) ?_
 refine yT 2 tab_ok rfl (by kernel_rfl) hy rfl (rfl) ?_
 refine yT 3 tab_ok rfl (by kernel_rfl) hy rfl (rfl) ?_
 refine yL 4 tab_ok rfl (by kernel_rfl) hy rfl rfl (hD.r.xcell (i:=0) rfl (j:=3) rfl) ?_
 refine yT 5 tab_ok rfl (by kernel_rfl) hy rfl (Exists.intro ([Vi x.1,Vi x.2]) (And.intro rfl (And.intro (hpD.cells) rfl))) ?_
 refine y_one 6 (by kernel_rfl) (y_op 6 tab_ok rfl rfl rfl rfl ?_)
 refine Exists.intro [(0,.agg #[Vi x.1, Vi x.2])] (Exists.intro #[Vi x.1, Vi x.2] (And.intro (And.intro rfl rfl) (And.intro (by decide) (And.intro (fill2 _ _ _ rfl) ?_))))
 have hy1:=hy.alloc (Nat.le_refl _) (.cells #[Vi x.1,Vi x.2] 48)
 refine And.intro (.inr hy1) ?_
 have h3:=hD.alloc (.cells #[Vi x.1,Vi x.2] 48)
 have hm3:=hmD.below (below_alloc w.drew (.cells #[Vi x.1,Vi x.2] 48))
 have ask : AppAsk (w.drew.alloc (.cells #[Vi x.1,Vi x.2] 48)) ⟨48,.struct [(0,3),(1,3)],2,16,.agg #[Vi 0,Vi 0]⟩ (.slice gs xs.length cs) xs.length (pairCells xs) (Vs w.drew.heap.size 1 1) 1 [Vi x.1,Vi x.2] base:=
  ⟨h3.r.1 1 _ rfl,.inr ⟨_,0,_,rfl,cell_alloc_new rfl,cell_alloc_new rfl,trivial⟩,rfl,(by simp [Value.oneCell']),(by omega),(by show (xs.length + 1) * 16 ≤ _; omega),h3.s⟩
 refine y_one 7 (by kernel_rfl) (y_op 7 tab_ok rfl rfl rfl rfl ?_)
 refine Exists.intro _ (Exists.intro _ (Exists.intro _ (Exists.intro _ (Exists.intro _ (And.intro (ask) (And.intro (fun _ h=>h.symm) (And.intro (by decide) ?_)))))))
 rintro v' w3 hown hgr - hat
 refine And.intro (.inl (by kernel_rfl)) ?_
 have h4:=h3.app (i:=1) rfl hown hgr hat
 have hm4:=hm3.row h3.r (i:=1) rfl hgr
 obtain ⟨g2,n2,c2,hv⟩:=own_form hown
 subst hv
 have e : (⟨.slice g2 n2 c2,48,2,xs.length + 1,pairCells xs ++ [Vi x.1,Vi x.2]⟩ : Ow) = oP (.slice g2 n2 c2) (xs ++ [x]):=by rw [oP,List.length_append,pairCells_append]; rfl
 have h5 : Hold base w0 w3 (findX 78 fb [Vi (-1),Vi (-1)] mb (.slice gs xs.length cs) :: oP (.slice g2 n2 c2) (xs ++ [x]) :: rest):=by rw [← e]; exact h4
 refine yG 8 tab_ok rfl (by kernel_rfl) (.inl (by kernel_rfl)) rfl rfl ?_
 refine yG 9 tab_ok rfl (by kernel_rfl) (.inl (by kernel_rfl)) rfl rfl ?_
 refine y_one 10 (by kernel_rfl) (y_op0 10 tab_ok rfl rfl rfl ?_)
 refine And.intro rfl (And.intro rfl (And.intro ⟨_,h5.r.xcell (i:=0) rfl (j:=3) rfl⟩ (And.intro (h5.r.free (i:=0) rfl 3) (And.intro (.inl (by kernel_rfl)) ?_))))
 exact y_endx (.slice g2 n2 c2) (by kernel_rfl) ⟨rfl,trivial⟩ ⟨h5.xstore (i:=0) rfl 3 (.slice g2 n2 c2),hm4.store h5.r (i:=0) rfl⟩
set_option maxHeartbeats 2000000 in
theorem numberP_any {fb W n : Nat} {s : FS} (h : FindP base w0 w fb W n s rest) (hI : FIn n s) (hn : n ≤ 20000000) (hfew : s.rows.length ≤ 1000000) {x : Int × Int} (hx : inR W n x) :
  Calls Tryz.prog 67 #[Vp fb,pairV x] w fun e w'=>e = .returned (Vi (plcM (s.num (cdP W x)).place (cdP W x))) ∧ FindP base w0 w' fb W n (s.num (cdP W x)) rest:=by
 refine Sym.enter (args:=[Vp fb,.agg #[Vi x.1,Vi x.2]]) Tryz.func67 rfl rfl rfl (fun a0 hS0=>?_)
 obtain ⟨B,hBB⟩ : ∃ B,B = w.heap.size:=⟨_,rfl⟩
 refine wp_seq (seq_cut [(0,Vp fb),(3,Vp B)] (· = w.alloc (.cells #[Vi x.1,Vi x.2] 48)) tab_ok hS0 ?_ (fun a w1 hS hw=>?_))
 ·subst hBB
  refine zB rfl ?_
  repeat first|refine zP rfl ?_|refine zK rfl ?_
  exact o_nil ⟨⟨rfl,rfl,trivial⟩,rfl⟩
 obtain ⟨mb,vf,xs,h,hrs,hm,hb,hin⟩:=h
 replace h:=(h.box (T:=48) (k:=2) #[Vi x.1,Vi x.2] rfl).perm (List.Perm.trans (.swap _ _ _) (.cons _ (.swap _ _ _)))
 replace hm:=hm.below (below_alloc w (.cells #[Vi x.1,Vi x.2] 48))
 rw [← hw,← hBB] at h
 rw [← hw] at hm
 clear hw
 have bx : ∀ {w' : World} {vf : Value} {xs : List (Int × Int)},Hold base w0 w' (findX 78 fb [Vi (-1),Vi (-1)] mb vf :: oP vf xs :: oX 48 B 2 [Vi x.1,Vi x.2] :: rest) → BoxP w' B x.1 x.2:=fun h=>⟨h.r.xcell (i:=2) rfl (j:=0) rfl,h.r.xcell (i:=2) rfl (j:=1) rfl⟩
 have hp:=bx h
 have hxl : s.rows.length = xs.length:=by rw [hrs,List.length_map]
 obtain ⟨hw1,hw2⟩:=hx.wf
 obtain ⟨q,hq⟩ : ∃ b,(decide (x.1 = -1) && (decide (x.2 = -1) && true)) = b:=⟨_,rfl⟩
 refine wp_seq (wp_seq (quiet_cut [(0,Vp fb),(3,Vp B),(12,.bool q)] tab_ok mixed (by kernel_rfl) hS ?_ (fun a w2 hS hw=>?_)))
 ·refine qA ([Vi x.1,Vi x.2]) rfl rfl (hp.cells) ?_
  repeat first|refine qP rfl ?_|refine qK rfl ?_
  refine qA ([Vi (-1),Vi (-1)]) rfl rfl (⟨h.r.xcell (i:=0) rfl (j:=0) rfl,h.r.xcell (i:=0) rfl (j:=1) rfl,trivial⟩) ?_
  refine qQ rfl (congrArg some hq) ?_
  repeat first|refine qP rfl ?_|refine qK rfl ?_
  exact q_nil ⟨rfl,rfl,rfl,trivial⟩
 replace h:=h.below hw
 replace hm:=hm.below hw
 replace hp:=hp.keep hw
 clear hw
 refine cond hS rfl (fun hT=>?_) (fun hF=>wp_skip ?_)
 ·rw [hT] at hq
  simp only [Bool.and_true,Bool.and_eq_true,decide_eq_true_eq] at hq
  have e : cdP W x = -1:=if_pos (by omega)
  refine wp_seq (seq_cut [(4,Vi (-1))] (· = w2) tab_ok hS ?_ (fun a w3 hS hw=>?_))
  ·repeat first|refine zP rfl ?_|refine zK rfl ?_
   exact o_nil ⟨⟨rfl,trivial⟩,rfl⟩
  subst hw
  have e2 : s.num (-1) = s:=by rw [FS.num,if_neg (by omega)]
  rw [e,e2]
  refine wp_ret ?_
  repeat (first | refine then_ret ?_ | refine block_ret ?_)
  exact ret1 hS rfl rfl ⟨rfl,mb,vf,xs,h.erase 2,hrs,hm,hb,hin⟩
 rw [hF] at hq
 have hne : ¬ (x.1 < 0 ∧ x.2 < 0):=by
  simp only [Bool.and_true,Bool.and_eq_false_iff,decide_eq_false_iff_not] at hq
  have:=hx.1
  have:=hx.2.1
  omega
 refine wp_seq (any_cut 11 [(0,Vp fb),(3,Vp B),(5,Vi (((plfP W n s x).getD 0 : Nat) : Int)),(6,.bool (plfP W n s x).isSome)] (fun w'=>RowKit.Below w2.heap.size w2 w') mixed hS ?_ (fun a w3 hS hw=>?_))
 ·have hy : RowKit.Below w2.drew.heap.size w2.drew w2.drew:=RowKit.Below.refl _ _
  have hd : RowKit.Below w2.heap.size w2 w2.drew:=(RowKit.Below.refl _ _).drew
  have hD:=h.drew
  have hmD:=hm.below hd
  have hpD:=hp.keep hd
  refine yT 0 tab_ok rfl (by kernel_rfl) hy rfl (rfl) ?_
  refine yT 1 tab_ok rfl (by kernel_rfl) hy rfl (rfl) ?_
  refine yT 2 tab_ok rfl (by kernel_rfl) hy rfl (rfl) ?_
  refine yL 3 tab_ok rfl (by kernel_rfl) hy rfl rfl (hD.r.xcell (i:=0) rfl (j:=2) rfl) ?_
  refine yT 4 tab_ok rfl (by kernel_rfl) hy rfl (Exists.intro ([Vi x.1,Vi x.2]) (And.intro rfl (And.intro (hpD.cells) rfl))) ?_
  refine y_one 5 (by kernel_rfl) (y_op 5 tab_ok rfl rfl rfl rfl ?_)
  refine ⟨_,MapF.look (kv:=pairV) hmD pairK und_mapP x (pair_key x hw1 hw2),?_⟩
  refine And.intro (.inr hy) ?_
  refine yT 6 tab_ok rfl (by kernel_rfl) hy rfl (rfl) ?_
  refine yT 7 tab_ok rfl (by kernel_rfl) hy rfl (rfl) ?_
  refine yT 8 tab_ok rfl (by kernel_rfl) hy rfl (rfl) ?_
  refine yT 9 tab_ok rfl (by kernel_rfl) hy rfl (rfl) ?_
  refine yT 10 tab_ok rfl (by kernel_rfl) hy rfl (rfl) ?_
  exact y_end (by kernel_rfl) ⟨rfl,rfl,rfl,rfl,trivial⟩ hd
 replace h:=h.below hw
 replace hm:=hm.below hw
 replace hp:=hp.keep hw
 clear hw
 refine wp_seq (wp_seq (seq_cut [(0,Vp fb),(3,Vp B),(5,Vi (((plfP W n s x).getD 0 : Nat) : Int)),(23,.bool (!(plfP W n s x).isSome))] (· = w3) tab_ok hS ?_ (fun a w4 hS hw=>?_)))
 ·repeat first|refine zP rfl ?_|refine zK rfl ?_
  exact o_nil ⟨⟨rfl,rfl,rfl,rfl,trivial⟩,rfl⟩
 subst hw
 by_cases h0 : s.place.getD (plc W x.1 x.2) (-1) < 0
 ·obtain ⟨k1,k2,k3⟩:=numP_rows hI hx hne h0
  have hpn : plfP W n s x = none:=by rw [plfP,if_pos hx,plf,if_neg (by omega)]
  rw [hpn] at hS
  refine cond hS rfl (fun hT=>?_) (fun hF=>by cases hF)
  refine wp_seq (seq_cut [(0,Vp fb),(3,Vp B),(5,Vi xs.length)] (· = w4) tab_ok hS ?_ (fun a w5 hS hw=>?_))
  ·obtain ⟨g,c,rfl,-,-⟩:=h.r.any (i:=1) rfl
   repeat first|refine zP rfl ?_|refine zK rfl ?_
   refine zL rfl (h.r.xcell (i:=0) rfl (j:=3) rfl) ?_
   repeat first|refine zP rfl ?_|refine zK rfl ?_
   exact o_nil ⟨⟨rfl,rfl,rfl,trivial⟩,rfl⟩
  subst hw
  refine wp_seq (any_cut 6 [(0,Vp fb),(3,Vp B),(5,Vi xs.length)] (fun w'=>Hold base w0 w' (findX 78 fb [Vi (-1),Vi (-1)] mb vf :: oP vf xs :: oX 48 B 2 [Vi x.1,Vi x.2] :: rest) ∧ MapF pairL 48 w' mb (xs.length + 1) (plfP W n (s.num (cdP W x)))) mixed hS ?_ (fun a w6 hS hw=>?_))
  ·have hy : RowKit.Below w5.drew.heap.size w5.drew w5.drew:=RowKit.Below.refl _ _
   have hd : RowKit.Below w5.heap.size w5 w5.drew:=(RowKit.Below.refl _ _).drew
   have hD:=h.drew
   have hmD:=hm.below hd
   have hpD:=hp.keep hd
   refine yT 0 tab_ok rfl (by kernel_rfl) hy rfl (rfl) ?_
   refine yT 1 tab_ok rfl (by kernel_rfl) hy rfl (rfl) ?_
   refine yT 2 tab_ok rfl (by kernel_rfl) hy rfl (rfl) ?_
   refine yL 3 tab_ok rfl (by kernel_rfl) hy rfl rfl (hD.r.xcell (i:=0) rfl (j:=2) rfl) ?_
   refine yT 4 tab_ok rfl (by kernel_rfl) hy rfl (Exists.intro ([Vi x.1,Vi x.2]) (And.intro rfl (And.intro (hpD.cells) rfl))) ?_
   refine yT 5 tab_ok rfl (by kernel_rfl) hy rfl (rfl) ?_
   refine y_one 6 (by kernel_rfl) (y_op0 6 tab_ok rfl rfl rfl ?_)
   obtain ⟨w',g1,g2,g3⟩:=MapF.put (kv:=pairV) hmD pairK und_mapP (by unfold maxLen; omega) x (pair_key x hw1 hw2) (pairL_inj x hw1 hw2) (v:=xs.length) (by omega)
   refine ⟨w',g1,?_⟩
   refine And.intro (.inl (by kernel_rfl)) ?_
   refine y_end (by kernel_rfl) ⟨rfl,rfl,rfl,trivial⟩ ⟨hD.map hmD hb g3,by rw [k3,hxl]; exact g2⟩
  obtain ⟨h,hm⟩:=hw
  refine numP_r7 h hm (bx h) (by omega) rfl hS (fun vf' a w7 hS hw=>?_)
  obtain ⟨h,hm⟩:=hw
  refine wp_seq (seq_cut [(4,Vi xs.length)] (· = w7) tab_ok hS ?_ (fun a w8 hS hw=>?_))
  ·repeat first|refine zP rfl ?_|refine zK rfl ?_
   exact o_nil ⟨⟨rfl,trivial⟩,rfl⟩
  subst hw
  refine wp_ret ?_
  repeat (first | refine then_ret ?_ | refine block_ret ?_)
  refine ret1 hS rfl rfl ⟨by rw [k2,hxl],mb,vf',xs ++ [x],h.erase 2,?_,?_,hb,fun y hy=>?_⟩
  ·rw [k1,hrs]; simp
  ·rw [List.length_append]; exact hm
  ·rcases List.mem_append.1 hy with hy | hy
   ·exact hin y hy
   ·rw [List.mem_singleton.1 hy]; exact hx
 ·obtain ⟨k1,k2⟩:=numP_known hI hx hne h0
  have hps : (plfP W n s x).isSome = true:=by rw [plfP,if_pos hx,plf,if_pos (by omega)]; rfl
  rw [hps] at hS
  refine cond hS rfl (fun hT=>by cases hT) (fun hF=>wp_skip ?_)
  refine wp_seq (seq_cut [(4,Vi (((plfP W n s x).getD 0 : Nat) : Int))] (· = w4) tab_ok hS ?_ (fun a w5 hS hw=>?_))
  ·repeat first|refine zP rfl ?_|refine zK rfl ?_
   exact o_nil ⟨⟨rfl,trivial⟩,rfl⟩
  subst hw
  rw [k1,k2]
  refine wp_ret ?_
  repeat (first | refine then_ret ?_ | refine block_ret ?_)
  exact ret1 hS rfl rfl ⟨rfl,mb,vf,xs,h.erase 2,hrs,hm,hb,hin⟩
end
end Go.Proofs.YthcoppfiahnpoaaGreat
namespace Go.Proofs.YthcoppfiahnpoaaGreat
open Go Sym
theorem pairCells_get : ∀ (ps : List (Int × Int)) (i : Nat) (hi : i < ps.length),(pairCells ps)[i * 2]? = some (Vi ps[i].1) ∧ (pairCells ps)[i * 2 + 1]? = some (Vi ps[i].2)
 | [],i,hi=>by simp at hi
 | x :: r,0,_=>⟨rfl,rfl⟩
 | x :: r,i + 1,hi=>by
   have:=pairCells_get r i (by simpa using hi)
   rw [show (i + 1) * 2 = i * 2 + 2 by omega]
   exact this
section
variable {w : World} {base g n c : Nat} {l : List (Int × Int)}
theorem ownP_cells (h : w.ownsRow base 48 2 (Vs g n c) n (pairCells l)) (hn : n = l.length) {j : Nat} (hj : j < l.length) : cellsAt w.cell? g (0 + j * 2) [Vi l[j].1,Vi l[j].2]:=by
 subst hn
 obtain ⟨h1,h2⟩:=pairCells_get l j hj
 rw [Nat.zero_add]
 exact ⟨by rw [World.ownsRow.cellAt h (j * 2) (by omega)]; exact h1,by rw [World.ownsRow.cellAt h (j * 2 + 1) (by omega)]; exact h2,trivial⟩
theorem ownP_slp {v : Value} (h : w.ownsRow base 48 2 v n (pairCells l)) (hn : n = l.length) (hI : ∀ x ∈ l,I64 x.1 ∧ I64 x.2) : SlP w v l:=by
 subst hn
 rcases h.2 with ⟨rfl,h0⟩ | ⟨g,cap,cur,rfl,_,hg,h1,h2,_⟩
 ·exact ⟨none,0,0,0,by rw [h0],by omega,by omega,by omega,fun i hi=>by omega⟩
 ·exact ⟨some ⟨g,0,none⟩,g,0,cap,rfl,fun _=>rfl,h1,by unfold maxLen at h2; omega,fun i hi=>⟨ownP_cells h rfl hi,hI _ (List.getElem_mem hi)⟩⟩
end
end Go.Proofs.YthcoppfiahnpoaaGreat
namespace Go.Proofs.YthcoppfiahnpoaaGreat
open Go Sym
theorem en_searchP : enters Tryz.prog 38 = true:=by kernel_rfl
section
variable {base : Nat} {w0 w w' : World} {l rest : List Ow}
theorem Rows.cP (h : Rows base w l) {i g n c : Nat} {xs : List (Int × Int)} (hi : l[i]? = some (oP (Vs g n c) xs)) {j : Nat} (hj : j < xs.length) : cellsAt w.cell? g (0 + j * 2) [Vi xs[j].1,Vi xs[j].2]:=by
 have h1:=h.1 i _ hi
 obtain rfl:=h.len hi
 exact ownP_cells h1 rfl hj
set_option maxHeartbeats 1000000 in
theorem searchP_any {n fb W L lim S : Nat} {x0 : Int × Int} {caps : Array Value} {next : List (List Int)} {F : FS} (h : FindP base w0 w fb W n (FS.none n) rest) (hn : n ≤ 100000) (hnl : next.length = n) (hx0 : inR W n x0) (hL : L ≤ 100000) (hlim : n ≤ lim) (hlim2 : lim ≤ 1000000)
  (hr : ∀ r : Int,0 ≤ r → r < n → ∀ c,c < L → -1 ≤ tgtM next r c ∧ tgtM next r c < n) (hen : enters Tryz.prog S = true)
  (hstep : ∀ (y : Int × Int) (c : Nat) (w : World),inR W n y → c < L → Hold base w0 w rest → Calls Tryz.prog S ([pairV y,Vi c] ++ caps.toList).toArray w fun e w'=>∃ z : Int × Int,inR W n z ∧ e = .returned (pairV z) ∧ tgtM next (plc W y.1 y.2 : Int) c = cdP W z ∧ RowKit.Below w.heap.size w w')
  (hF : foundM (cdP W x0) next L = F) :
  Calls Tryz.prog 38 #[Vp fb,pairV x0,Vi L,Vi lim,.func (.func S) #[] caps] w fun e w'=>∃ (vn : Value) (vs : List Value),e = .returned (.tuple #[vn,.bool true]) ∧ vs.length = F.rows.length ∧ FIn n F ∧ FindP base w0 w' fb W n F (nextR vn vs (F.rows.map (renumM F.place next L)) ++ rest):=by
 refine Sym.enter (args:=[Vp fb,pairV x0,Vi L,Vi lim,.func (.func S) #[] caps]) Tryz.func38 rfl rfl rfl (fun a0 hS0=>?_)
 obtain ⟨B,hBB⟩ : ∃ B,B = w.heap.size:=⟨_,rfl⟩
 refine wp_seq (seq_cut [(0,Vp fb),(2,Vi L),(3,Vi lim),(4,.func (.func S) #[] caps),(6,Vp B),(10,.slice none 0 0)] (· = w.alloc (.cells #[Vi x0.1,Vi x0.2] 48)) tab_ok hS0 ?_ (fun a w1 hS hw=>?_))
 ·subst hBB
  refine zB rfl ?_
  repeat first|refine zP rfl ?_|refine zK rfl ?_
  exact o_nil ⟨⟨rfl,rfl,rfl,rfl,rfl,rfl,trivial⟩,rfl⟩
 have hp : BoxP w1 B x0.1 x0.2:=by rw [hw,hBB]; exact BoxP.new _ _ _ _
 replace h:=h.below (below_alloc w (.cells #[Vi x0.1,Vi x0.2] 48))
 rw [← hw] at h
 clear hw
 have hc0:=cdP_lt hx0
 have hI0:=(FIn.none n).num hc0.2 hc0.1
 refine wp_scope_straight (wp_seq (seq_cut [(0,Vp fb),(2,Vi L),(3,Vi lim),(4,.func (.func S) #[] caps),(10,.slice none 0 0)] (fun w'=>FindP base w0 w' fb W n ((FS.none n).num (cdP W x0)) rest) tab_ok hS ?_ (fun a w2 hS h=>?_)))
 ·repeat first|refine zP rfl ?_|refine zK rfl ?_
  refine zA ([Vi x0.1,Vi x0.2]) rfl rfl (hp.cells) ?_
  refine zF rfl (en_numberP) (numberP_any h (FIn.none n) (by omega) (by simp [FS.none]) hx0) ?_
  rintro e w2 ⟨rfl,h2⟩
  refine ⟨_,rfl,?_⟩
  repeat first|refine zP rfl ?_|refine zK rfl ?_
  exact o_nil ⟨⟨rfl,rfl,rfl,rfl,rfl,trivial⟩,h2⟩
 refine wp_seq (wp_label ?_)
 refine wp_seq (wp_seq (seq_cut [(0,Vp fb),(2,Vi L),(3,Vi lim),(4,.func (.func S) #[] caps),(10,.slice none 0 0),(12,Vi (0 : Nat))] (· = w2) tab_ok hS ?_ (fun a w3 hS hw=>?_)))
 ·repeat first|refine zP rfl ?_|refine zK rfl ?_
  exact o_nil ⟨⟨rfl,rfl,rfl,rfl,rfl,rfl,trivial⟩,rfl⟩
 subst hw
 obtain ⟨mb,vf,xs,h,hrs,hm,hb,hin⟩:=h
 have hne:=(h.nil 35 1).perm (List.Perm.trans (.swap _ _ _) (.cons _ (.swap _ _ _)))
 refine wp_block (loop0 hS (fun g E w'=>∃ (i : Nat) (s : FS) (vn : Value) (vs : List Value),E = [(0,Vp fb),(2,Vi L),(3,Vi lim),(4,.func (.func S) #[] caps),(10,vn),(12,Vi i)] ∧ FIn n s ∧ i ≤ s.rows.length ∧ foundGo next L g i s = F ∧ n ≤ g + i ∧ vs.length = i ∧ FindP base w0 w' fb W n s (nextR vn vs ((s.rows.take i).map (renumM F.place next L)) ++ rest)) n
  ⟨0,_,_,[],rfl,hI0.1,Nat.zero_le _,by rw [← hF,foundM_go (by rw [hnl]; exact hc0.2) hc0.1,hnl],by omega,rfl,mb,vf,xs,hne,hrs,hm,hb,hin⟩ ?_)
 clear hS h hne hrs hm hb hin
 rintro g E w4 a ⟨i,s,vn,vs,rfl,hI,hi,hgo,hg,hvs,h⟩ hS
 have hcap:=hI.ok.cap
 refine wp_seq (wp_seq (seq_cut [(0,Vp fb),(2,Vi L),(3,Vi lim),(4,.func (.func S) #[] caps),(10,vn),(12,Vi i),(24,.bool (decide (i < s.rows.length)))] (· = w4) tab_ok hS ?_ (fun a w5 hS hw=>?_)))
 ·obtain ⟨mb,vf,xs,h,hrs,hm,hb,hin⟩:=h
  have hxl : s.rows.length = xs.length:=by rw [hrs,List.length_map]
  obtain ⟨gf,cf,rfl,-,-⟩:=h.r.any (i:=1) rfl
  rw [hxl]
  repeat first|refine zP rfl ?_|refine zK rfl ?_
  refine zL rfl (h.r.xcell (i:=0) rfl (j:=3) rfl) ?_
  repeat first|refine zP rfl ?_|refine zK rfl ?_
  refine zC rfl (lt_nat _ _) ?_
  repeat first|refine zP rfl ?_|refine zK rfl ?_
  exact o_nil ⟨⟨rfl,rfl,rfl,rfl,rfl,rfl,rfl,trivial⟩,rfl⟩
 subst hw
 refine cond hS rfl (fun hT=>wp_skip ?_) (fun hF'=>?_)
 rotate_left
 ·have hii : s.rows.length ≤ i:=by have:=of_decide_eq_false hF'; omega
  have hsF : s = F:=by rw [← hgo,foundGo_end hii]
  have hie : i = s.rows.length:=by omega
  rw [hie,List.take_length] at h
  subst hsF
  refine wp_exit ?_
  repeat (first | refine then_exit ?_ | refine block_exit ?_ | refine block_other rfl ?_)
  refine wp_seq (quiet_cut [(10,vn),(11,.bool true)] tab_ok mixed (by kernel_rfl) hS ?_ (fun a w6 hS hw=>?_))
  ·obtain ⟨mb,vf,xs,h,hrs,hm,hb,hin⟩:=h
   have hxl : s.rows.length = xs.length:=by rw [hrs,List.length_map]
   obtain ⟨gf,cf,rfl,-,-⟩:=h.r.any (i:=1) rfl
   repeat first|refine qP rfl ?_|refine qK rfl ?_
   refine qL rfl (h.r.xcell (i:=0) rfl (j:=3) rfl) ?_
   repeat first|refine qP rfl ?_|refine qK rfl ?_
   refine qC rfl (decide_eq_true (show (xs.length : Int) ≤ (lim : Int) by omega)) ?_
   repeat first|refine qP rfl ?_|refine qK rfl ?_
   exact q_nil ⟨rfl,rfl,trivial⟩
  refine wp_ret ?_
  repeat (first | refine then_ret ?_ | refine block_ret ?_)
  exact noGotoR (ret2 hS rfl rfl rfl ⟨vn,vs,rfl,by omega,hI,h.below hw⟩)
 have hii : i < s.rows.length:=of_decide_eq_true hT
 obtain ⟨g,rfl⟩ : ∃ g',g = g' + 1:=⟨g - 1,by omega⟩
 rw [foundGo_next hii] at hgo
 obtain ⟨r,hre⟩ : ∃ r,r = s.rows.getD i 0:=⟨_,rfl⟩
 have hri : s.rows[i] = r:=by rw [hre]; simp [List.getD_eq_getElem?_getD,hii]
 rw [← hre] at hgo
 obtain ⟨hr0,hrn,-⟩:=hI.ok.r r (by rw [← hri]; exact List.getElem_mem hii)
 have hrt:=hr r hr0 hrn
 obtain ⟨hIL,hLL⟩:=row_in hI hrt L (Nat.le_refl _)
 have hrl : s.rows.length ≤ (FS.row next r L s).rows.length:=by
  have:=hLL.rows (s.rows.length - 1) s.rows[s.rows.length - 1] (by simp)
  have:=(List.getElem?_eq_some_iff.1 this).1
  omega
 have hFl : FLe n (FS.row next r L s) F:=by
  rw [← hgo]
  exact (found_scan (L:=L) hr g (i + 1) _ hIL (by omega) (by omega)).2.1
 have hva : ∀ c,c < L → plcM ((FS.row next r c s).num (tgtM next r c)).place (tgtM next r c) = plcM F.place (tgtM next r c):=fun c hc=>num_stays hI hrt hc hFl
 obtain ⟨v,hve⟩ : ∃ v : Nat → Int,v = fun c=>plcM F.place (tgtM next r c):=⟨_,rfl⟩
 obtain ⟨NR,hNR⟩ : ∃ NR,NR = nextR vn vs ((s.rows.take i).map (renumM F.place next L)) ++ rest:=⟨_,rfl⟩
 rw [← hNR] at h
 have hNRr : ∀ {w'},Hold base w0 w' NR → Hold base w0 w' rest:=fun h=>by rw [hNR] at h; exact h.drop
 refine wp_seq (wp_block (wp_seq (seq_cutx (α:=Nat) (fun gc=>[(0,Vp fb),(2,Vi L),(3,Vi lim),(4,.func (.func S) #[] caps),(10,vn),(12,Vi i),(13,Vs gc L L)]) (fun gc w'=>FindP base w0 w' fb W n s (oI (Vs gc L L) (rowZ L 0 v) :: NR)) tab_ok hS ?_ (fun gc a w6 hS h=>?_))))
 ·obtain ⟨mb,vf,xs,h,hrs,hm,hb,hin⟩:=h
  have h2:=(h.makeI (n:=L) (by omega)).perm (List.Perm.trans (.swap _ _ _) (.cons _ (.swap _ _ _)))
  rw [rowZ_0 L v] at h2
  repeat first|refine zP rfl ?_|refine zK rfl ?_
  refine zM (L) rfl rfl rfl rfl rfl ((by show 8 * _ ≤ _; omega)) ((by omega)) ?_
  repeat first|refine zP rfl ?_|refine zK rfl ?_
  exact o_nil ⟨_,⟨rfl,rfl,rfl,rfl,rfl,rfl,rfl,trivial⟩,mb,vf,xs,h2,hrs,hm.below (below_alloc _ _),hb,hin⟩
 refine wp_seq (wp_seq (seq_cut [(0,Vp fb),(2,Vi L),(3,Vi lim),(4,.func (.func S) #[] caps),(10,vn),(12,Vi i),(13,Vs gc L L),(29,Vi L),(30,Vi (0 : Nat))] (· = w6) tab_ok hS ?_ (fun a w7 hS hw=>?_)))
 ·repeat first|refine zP rfl ?_|refine zK rfl ?_
  exact o_nil ⟨⟨rfl,rfl,rfl,rfl,rfl,rfl,rfl,rfl,rfl,trivial⟩,rfl⟩
 subst hw
 refine wp_block (loop0 hS (fun γ E w'=>∃ c : Nat,c ≤ L ∧ γ = L - c ∧ E = [(0,Vp fb),(2,Vi L),(3,Vi lim),(4,.func (.func S) #[] caps),(10,vn),(12,Vi i),(13,Vs gc L L),(29,Vi L),(30,Vi c)] ∧ FindP base w0 w' fb W n (FS.row next r c s) (oI (Vs gc L L) (rowZ L c v) :: NR)) L ⟨0,by omega,by omega,rfl,h⟩ ?_)
 clear hS h
 rintro γ E w8 a ⟨c,hc,rfl,rfl,h⟩ hS
 refine wp_seq (seq_cut [(0,Vp fb),(2,Vi L),(3,Vi lim),(4,.func (.func S) #[] caps),(10,vn),(12,Vi i),(13,Vs gc L L),(29,Vi L),(30,Vi c),(31,.bool (decide (c < L)))] (· = w8) tab_ok hS ?_ (fun a w9 hS hw=>?_))
 ·repeat first|refine zP rfl ?_|refine zK rfl ?_
  refine zC rfl (lt_nat _ _) ?_
  repeat first|refine zP rfl ?_|refine zK rfl ?_
  exact o_nil ⟨⟨rfl,rfl,rfl,rfl,rfl,rfl,rfl,rfl,rfl,rfl,trivial⟩,rfl⟩
 subst hw
 refine wp_seq (cond hS rfl (fun hT=>wp_skip ?_) (fun hF'=>?_))
 rotate_left
 ·have hcc : L = c:=by have:=of_decide_eq_false hF'; omega
  subst hcc
  refine wp_exit ?_
  repeat (first | refine then_exit ?_ | refine block_exit ?_ | refine block_other rfl ?_)
  rw [rowZ_L,hve] at h
  refine seq_cutx (α:=Value) (fun vn'=>[(0,Vp fb),(2,Vi L),(3,Vi lim),(4,.func (.func S) #[] caps),(10,vn'),(12,Vi i)]) (fun vn' w'=>FindP base w0 w' fb W n (FS.row next r L s) (nextR vn' (vs ++ [Vs gc L L]) ((s.rows.take (i + 1)).map (renumM F.place next L)) ++ rest)) tab_ok hS ?_ (fun vn' a w10 hS h=>?_)
  ·obtain ⟨mb,vf,xs,h,hrs,hm,hb,hin⟩:=h
   subst hNR
   obtain ⟨gvp,cvp,rfl,-⟩:=h.r.any (i:=3) (v:=vn) (e:=35) (s:=1) (n:=vs.length) (xs:=vs) rfl
   repeat first|refine zP rfl ?_|refine zK rfl ?_
   refine o_step rfl rfl rfl ?_
   refine Exists.intro [(0,Vs gc L L)] (Exists.intro #[Vs gc L L] (And.intro (And.intro rfl rfl) (And.intro (by decide) (And.intro (fill1 _ _ _ _) ?_))))
   have hal:=below_alloc w9 (.cells #[Vs gc L L] 35)
   have h3:=h.alloc (.cells #[Vs gc L L] 35)
   have hm4:=hm.below hal
   have ask : AppAsk (w9.alloc (.cells #[Vs gc L L] 35)) ⟨35,.slice 3,1,24,.slice none 0 0⟩ (.slice gvp vs.length cvp) vs.length vs (Vs w9.heap.size 1 1) 1 [Vs gc L L] base:=
    ⟨h3.r.1 3 _ rfl,.inr ⟨_,0,_,rfl,cell_alloc_new rfl,trivial⟩,rfl,(by simp [Value.oneCell']),(by omega),(by show (vs.length + 1) * 24 ≤ _; omega),h3.s⟩
   refine o_step rfl rfl rfl ?_
   refine Exists.intro _ (Exists.intro _ (Exists.intro _ (Exists.intro _ (Exists.intro _ (And.intro (ask) (And.intro (fun _ h=>h.symm) (And.intro (by decide) ?_)))))))
   rintro v' w16 hown2 hgr - hat
   have h4:=h3.app (i:=3) rfl hown2 hgr hat
   have hm5:=hm4.row h3.r (i:=3) rfl hgr
   repeat first|refine zP rfl ?_|refine zK rfl ?_
   refine o_nil ⟨v',⟨rfl,rfl,rfl,rfl,rfl,rfl,trivial⟩,mb,vf,xs,?_,hrs,hm5,hb,hin⟩
   have hlen : vs.length = ((s.rows.take i).map (renumM F.place next L)).length:=by simp; omega
   rw [List.take_succ_eq_append_getElem hii,List.map_append,List.map_singleton,nextR_snoc hlen,hri]
   refine h4.perm ?_
   obtain ⟨Z,hZ⟩ : ∃ Z,Z = List.zipWith (fun v l=>oI v l) vs ((s.rows.take i).map (renumM F.place next L)):=⟨_,rfl⟩
   show List.Perm (_ :: _ :: oI (Vs gc L L) ((List.range L).map fun d=>plcM F.place (tgtM next r d)) :: _ :: (List.zipWith (fun v l=>oI v l) vs ((s.rows.take i).map (renumM F.place next L)) ++ rest)) (_ :: _ :: _ :: ((List.zipWith (fun v l=>oI v l) vs ((s.rows.take i).map (renumM F.place next L)) ++ [oI (Vs gc L L) (renumM F.place next L r)]) ++ rest))
   rw [← hZ]
   refine .cons _ (.cons _ ((List.Perm.swap _ _ _).trans (.cons _ ?_)))
   rw [List.append_assoc]
   exact (List.perm_middle (l₁:=Z) (l₂:=rest)).symm
  refine block_normal ?_
  refine seq_cut [(0,Vp fb),(2,Vi L),(3,Vi lim),(4,.func (.func S) #[] caps),(10,vn'),(12,Vi (i + 1 : Nat))] (· = w10) tab_ok hS ?_ (fun a w11 hS hw=>?_)
  ·repeat first|refine zP rfl ?_|refine zK rfl ?_
   refine zN rfl (i64_add i 1 (by omega)) ?_
   repeat first|refine zP rfl ?_|refine zK rfl ?_
   exact o_nil ⟨⟨rfl,rfl,rfl,rfl,rfl,rfl,trivial⟩,rfl⟩
  subst hw
  refine ⟨g,_,by omega,⟨i + 1,FS.row next r L s,vn',vs ++ [Vs gc L L],rfl,hIL,by omega,hgo,by omega,by simp [hvs],?_⟩,hS⟩
  have e : (FS.row next r L s).rows.take (i + 1) = s.rows.take (i + 1):=by
   refine List.ext_getElem (by simp; omega) fun j h1 h2=>?_
   have hj : j < s.rows.length:=by simp at h2; omega
   have:=hLL.rows j s.rows[j] (by simp [hj])
   simp only [List.getElem_take]
   exact (List.getElem?_eq_some_iff.1 this).2
  rw [e]; exact h
 have hcc : c < L:=of_decide_eq_true hT
 obtain ⟨hIc,-⟩:=row_in hI hrt c (by omega)
 obtain ⟨hIc1,hLc⟩:=row_in hI hrt (c + 1) (by omega)
 refine wp_seq (wp_block (wp_seq (seq_cut [(0,Vp fb),(2,Vi L),(3,Vi lim),(4,.func (.func S) #[] caps),(10,vn),(12,Vi i),(13,Vs gc L L),(29,Vi L),(30,Vi c),(14,Vi c)] (· = w9) tab_ok hS ?_ (fun a w10 hS hw=>?_))))
 ·repeat first|refine zP rfl ?_|refine zK rfl ?_
  exact o_nil ⟨⟨rfl,rfl,rfl,rfl,rfl,rfl,rfl,rfl,rfl,rfl,trivial⟩,rfl⟩
 subst hw
 refine wp_seq (seq_cut [(0,Vp fb),(2,Vi L),(3,Vi lim),(4,.func (.func S) #[] caps),(10,vn),(12,Vi i),(13,Vs gc L L),(29,Vi L),(30,Vi c)] (fun w'=>FindP base w0 w' fb W n (FS.row next r (c + 1) s) (oI (Vs gc L L) (rowZ L (c + 1) v) :: NR)) tab_ok hS ?_ (fun a w11 hS h=>?_))
 ·obtain ⟨mb,vf,xs,h,hrs,hm,hb,hin⟩:=h
  obtain ⟨-,hLc0⟩:=row_in hI hrt c (by omega)
  have hxl : (FS.row next r c s).rows.length = xs.length:=by rw [hrs,List.length_map]
  have hir:=hLc0.rows i r (by rw [← hri]; simp [hii])
  obtain ⟨hi2,hir2⟩:=List.getElem?_eq_some_iff.1 hir
  have hix : i < xs.length:=by omega
  obtain ⟨y,hye⟩ : ∃ y,y = xs[i]:=⟨_,rfl⟩
  have hyr : ((plc W y.1 y.2 : Nat) : Int) = r:=by
   rw [← hir2,hye]
   simp only [hrs,List.getElem_map]
  have hyn : inR W n y:=by rw [hye]; exact hin _ (List.getElem_mem hix)
  obtain ⟨gf,cf,rfl,-⟩:=h.r.nilOr (i:=1) rfl (by omega)
  have hcell:=h.r.cP (i:=1) rfl hix
  rw [← hye] at hcell
  repeat first|refine zP rfl ?_|refine zK rfl ?_
  refine zL rfl (h.r.xcell (i:=0) rfl (j:=3) rfl) ?_
  repeat first|refine zP rfl ?_|refine zK rfl ?_
  refine zI rfl (rfl) (hix) ?_
  refine zA ([Vi y.1,Vi y.2]) rfl rfl (hcell) ?_
  repeat first|refine zP rfl ?_|refine zK rfl ?_
  refine zF rfl (hen) (hstep y c w10 hyn hcc (hNRr h.tail.tail.tail)) ?_
  rintro e w11 ⟨z,hzn,rfl,hzt,hw⟩
  refine ⟨_,rfl,?_⟩
  rw [hyr] at hzt
  have hfn : FindP base w0 w11 fb W n (FS.row next r c s) (oI (Vs gc L L) (rowZ L c v) :: NR):=⟨mb,_,xs,h.below hw,hrs,hm.below hw,hb,hin⟩
  repeat first|refine zP rfl ?_|refine zK rfl ?_
  refine zF rfl (en_numberP) (numberP_any hfn hIc (by omega) (by have:=hIc.ok.cap; omega) hzn) ?_
  rintro e w12 ⟨rfl,h12⟩
  refine ⟨_,rfl,?_⟩
  rw [← hzt,hva c hcc]
  rw [← hzt,← FS.step_num,← FS.row_succ] at h12
  obtain ⟨mb,vf,xs,h,hrs,hm,hb,hin⟩:=h12
  have hzl : c < (rowZ L c v).length:=by rw [rowZ_len]; exact hcc
  have hst:=h.storeI (i:=2) rfl c (plcM F.place (tgtM next r c))
  rw [show (rowZ L c v).set c (plcM F.place (tgtM next r c)) = rowZ L (c + 1) v by rw [← rowZ_set v hcc,hve]] at hst
  repeat first|refine zP rfl ?_|refine zK rfl ?_
  refine zI rfl (rfl) (hcc) ?_
  refine zS rfl rfl (h.r.cellI (i:=2) rfl hzl) (h.r.free (i:=2) rfl _) ?_
  exact o_nil ⟨⟨rfl,rfl,rfl,rfl,rfl,rfl,rfl,rfl,rfl,trivial⟩,mb,vf,xs,hst,hrs,hm.store h.r (i:=2) rfl,hb,hin⟩
 refine wp_seq (seq_cut [(0,Vp fb),(2,Vi L),(3,Vi lim),(4,.func (.func S) #[] caps),(10,vn),(12,Vi i),(13,Vs gc L L),(29,Vi L),(30,Vi c),(54,.bool false)] (· = w11) tab_ok hS ?_ (fun a w12 hS hw=>?_))
 ·obtain ⟨mb,vf,xs,h,hrs,hm,hb,hin⟩:=h
  have hxl : (FS.row next r (c + 1) s).rows.length = xs.length:=by rw [hrs,List.length_map]
  have:=hIc1.ok.cap
  obtain ⟨gf,cf,rfl,-,-⟩:=h.r.any (i:=1) rfl
  repeat first|refine zP rfl ?_|refine zK rfl ?_
  refine zL rfl (h.r.xcell (i:=0) rfl (j:=3) rfl) ?_
  repeat first|refine zP rfl ?_|refine zK rfl ?_
  refine zC rfl (decide_eq_false (show ¬ ((lim : Int) < (xs.length : Int)) by omega)) ?_
  repeat first|refine zP rfl ?_|refine zK rfl ?_
  exact o_nil ⟨⟨rfl,rfl,rfl,rfl,rfl,rfl,rfl,rfl,rfl,rfl,trivial⟩,rfl⟩
 subst hw
 refine cond hS rfl (fun hT=>by cases hT) (fun hF'=>wp_skip ?_)
 refine block_normal ?_
 refine seq_cut [(0,Vp fb),(2,Vi L),(3,Vi lim),(4,.func (.func S) #[] caps),(10,vn),(12,Vi i),(13,Vs gc L L),(29,Vi L),(30,Vi (c + 1 : Nat))] (· = w12) tab_ok hS ?_ (fun a w13 hS hw=>?_)
 ·repeat first|refine zP rfl ?_|refine zK rfl ?_
  refine zN rfl (i64_add c 1 (by omega)) ?_
  repeat first|refine zP rfl ?_|refine zK rfl ?_
  exact o_nil ⟨⟨rfl,rfl,rfl,rfl,rfl,rfl,rfl,rfl,rfl,trivial⟩,rfl⟩
 subst hw
 exact ⟨L - (c + 1),_,by omega,⟨c + 1,by omega,rfl,rfl,h⟩,hS⟩
end
end Go.Proofs.YthcoppfiahnpoaaGreat
namespace Go.Proofs.YthcoppfiahnpoaaGreat
open Go Sym
theorem en_relate1 : enters Tryz.prog 36 = true:=by kernel_rfl
def decP (W k : Nat) : Int × Int:=(((k / W : Nat) : Int) - 1,((k % W : Nat) : Int) - 1)
def relN (L W n : Nat) (n1 n2 : List (List Int)) : List (List Int):=(List.range n).map fun k=>(List.range L).map fun c=>cdP W (step2 n1 n2 (decP W k) c)
theorem gone_iff (p : Int × Int) : goneP false p ↔ p.1 < 0 ∧ p.2 < 0:=by
 unfold goneP okPut
 simp
theorem cdP_gone {W : Nat} {p : Int × Int} : (cdP W p < 0) ↔ goneP false p:=by
 rw [gone_iff]
 unfold cdP
 split <;> omega
theorem dec_plc {W n : Nat} {x : Int × Int} (h : inR W n x) : decP W (plc W x.1 x.2) = x:=by
 have e1 : plc W x.1 x.2 % W = (x.2 + 1).toNat:=by
  unfold plc
  rw [Nat.add_comm,Nat.add_mul_mod_self_right,Nat.mod_eq_of_lt (by have:=h.2.2.1; have:=h.2.1; omega)]
 have e2 : plc W x.1 x.2 / W = (x.1 + 1).toNat:=by
  unfold plc
  rw [Nat.mul_comm,Nat.mul_add_div (by have:=h.2.2.1; have:=h.2.1; omega),Nat.div_eq_of_lt (by have:=h.2.2.1; have:=h.2.1; omega),Nat.add_zero]
 have h1:=h.1
 have h2:=h.2.1
 unfold decP
 rw [e1,e2]
 exact Prod.ext (by show ((x.1 + 1).toNat : Int) - 1 = x.1; omega) (by show ((x.2 + 1).toNat : Int) - 1 = x.2; omega)
section
variable {L W n : Nat} {n1 n2 : List (List Int)} {f1 f2 : List Bool} {s1 s2 : Int}
structure PairsI (L W n : Nat) (s1 : Int) (n1 : List (List Int)) (f1 : List Bool) (s2 : Int) (n2 : List (List Int)) (f2 : List Bool) : Prop where
 h1 : Shape (L : Int) s1 n1 f1
 h2 : Shape (L : Int) s2 n2 f2
 eW : W = n2.length + 1
 en : n = (n1.length + 1) * W
 l1 : n1.length ≤ 4000
 l2 : n2.length ≤ 4000
theorem PairsI.mk' (h : PairsI L W n s1 n1 f1 s2 n2 f2) {x : Int × Int} (a1 : -1 ≤ x.1) (a2 : x.1 < n1.length) (a3 : -1 ≤ x.2) (a4 : x.2 < n2.length) : inR W n x:=by
 have:=h.l1
 have:=h.l2
 refine ⟨a1,a3,by rw [h.eW]; omega,by omega,by rw [h.eW]; omega,?_⟩
 rw [h.en,h.eW]; exact plc_lt a2 a4
theorem PairsI.rng (h : PairsI L W n s1 n1 f1 s2 n2 f2) {x : Int × Int} (hx : inR W n x) : x.1 < n1.length ∧ x.2 < n2.length:=by
 have h3:=hx.2.2.2.2.2
 have h4:=hx.2.2.1
 have hW:=h.eW
 refine ⟨?_,by omega⟩
 rw [h.en] at h3
 have : (x.1 + 1).toNat * W < (n1.length + 1) * W:=Nat.lt_of_le_of_lt (Nat.le_add_right _ _) h3
 have:=Nat.lt_of_mul_lt_mul_right this
 omega
theorem PairsI.stepR (h : PairsI L W n s1 n1 f1 s2 n2 f2) {x : Int × Int} (hx : inR W n x) {c : Nat} (hc : c < L) : inR W n (step2 n1 n2 x c):=by
 obtain ⟨r1,r2⟩:=h.rng hx
 have a1:=stepM_range h.h1 (st:=x.1) (l:=c) r1 (by omega) (by omega)
 have a2:=stepM_range h.h2 (st:=x.2) (l:=c) r2 (by omega) (by omega)
 exact h.mk' a1.1 a1.2 a2.1 a2.2
theorem PairsI.decR (h : PairsI L W n s1 n1 f1 s2 n2 f2) {k : Nat} (hk : k < n) : inR W n (decP W k):=by
 have hW:=h.eW
 have hn:=h.en
 have d1 : k / W < n1.length + 1:=Nat.div_lt_of_lt_mul (by rw [Nat.mul_comm,← hn]; exact hk)
 have d2 : k % W < W:=Nat.mod_lt _ (by omega)
 obtain ⟨a,ha⟩ : ∃ a,a = k / W:=⟨_,rfl⟩
 obtain ⟨b,hb⟩ : ∃ b,b = k % W:=⟨_,rfl⟩
 have e : decP W k = ((a : Int) - 1,(b : Int) - 1):=by rw [decP,ha,hb]
 rw [← ha] at d1
 rw [← hb] at d2
 rw [e]
 refine h.mk' ?_ ?_ ?_ ?_ <;> (dsimp only; omega)
theorem PairsI.tgt (h : PairsI L W n s1 n1 f1 s2 n2 f2) {x : Int × Int} (hx : inR W n x) {c : Nat} (hc : c < L) : tgtM (relN L W n n1 n2) (plc W x.1 x.2 : Int) c = cdP W (step2 n1 n2 x c):=by
 have hlt:=hx.2.2.2.2.2
 rw [tgtM,Int.toNat_natCast]
 simp only [relN,List.getD_eq_getElem?_getD,List.getElem?_map,List.getElem?_range hlt,Option.map_some,Option.getD_some,List.getElem?_range hc]
 rw [dec_plc hx]
theorem PairsI.len : (relN L W n n1 n2).length = n:=by simp [relN]
theorem PairsI.shape (h : PairsI L W n s1 n1 f1 s2 n2 f2) : Shape (L : Int) 0 (relN L W n n1 n2) (List.replicate n false):=by
 have hn0 : 0 < n:=by rw [h.en,h.eW]; exact Nat.mul_pos (by omega) (by omega)
 refine ⟨by omega,by rw [PairsI.len]; simp,by omega,by rw [PairsI.len]; omega,fun _=>by omega,fun k hk=>?_⟩
 have hk' : k < n:=by rw [PairsI.len] at hk; exact hk
 rw [PairsI.len]
 simp only [relN,List.getElem_map,List.getElem_range,List.length_map,List.length_range]
 exact ⟨trivial,fun j hj=>cdP_lt (h.stepR (h.decR hk') (by simpa using hj))⟩
theorem rows_P {next : List (List Int)} {P : Int → Prop} (hP : ∀ r,P r → ∀ c,c < L → 0 ≤ tgtM next r c → P (tgtM next r c)) : ∀ (g i : Nat) (s : FS),(∀ z ∈ s.rows,P z) → ∀ z ∈ (foundGo next L g i s).rows,P z
 | 0,_,_,h=>h
 | g + 1,i,s,h=>by
   rw [foundGo]
   split
   ·rename_i hi
    have hr : P (s.rows.getD i 0):=by
     rw [List.getD_eq_getElem?_getD,List.getElem?_eq_getElem hi]
     exact h _ (List.getElem_mem hi)
    refine rows_P hP g (i + 1) _ ?_
    have : ∀ c,c ≤ L → ∀ z ∈ (FS.row next (s.rows.getD i 0) c s).rows,P z:=fun c=>by
     induction c with
     | zero=>exact fun _=>h
     | succ c ih=>
       intro hc
       rw [FS.row_succ,FS.step_num,FS.num]
       split
       ·rename_i h0
        intro z hz
        rcases List.mem_append.1 hz with hz | hz
        ·exact ih (by omega) z hz
        ·rw [List.mem_singleton.1 hz]; exact hP _ hr c (by omega) h0.1
       ·exact ih (by omega)
    exact this L (Nat.le_refl _)
   ·exact h
theorem PairsI.mem (h : PairsI L W n s1 n1 f1 s2 n2 f2) {F : FS} (hF : foundM (cdP W (s1,s2)) (relN L W n n1 n2) L = F) (hFo : Found (cdP W (s1,s2)) (relN L W n n1 n2) L F) {xs : List (Int × Int)} (hrs : F.rows = xs.map fun x=>(plc W x.1 x.2 : Int)) (hin : ∀ x ∈ xs,inR W n x) (x : Int × Int) :
  x ∈ xs ↔ ¬ goneP false x ∧ ∃ u,Word L u ∧ run2 n1 n2 (s1,s2) u = x:=by
 have hs : inR W n (s1,s2):=h.mk' h.h1.s1 h.h1.s2 h.h2.s1 h.h2.s2
 have hs0:=cdP_lt hs
 constructor
 ·intro hx
  have hz : (plc W x.1 x.2 : Int) ∈ F.rows:=by rw [hrs]; exact List.mem_map.2 ⟨x,hx,rfl⟩
  have key:=rows_P (L:=L) (next:=relN L W n n1 n2) (P:=fun z=>∃ u,Word L u ∧ inR W n (run2 n1 n2 (s1,s2) u) ∧ ¬ goneP false (run2 n1 n2 (s1,s2) u) ∧ z = plc W (run2 n1 n2 (s1,s2) u).1 (run2 n1 n2 (s1,s2) u).2) (by
   rintro r ⟨u,hu,hr,hg,rfl⟩ c hc h0
   rw [h.tgt hr hc] at h0 ⊢
   refine ⟨u ++ [c],fun a ha=>?_,?_⟩
   ·rcases List.mem_append.1 ha with ha | ha
    ·exact hu a ha
    ·rw [List.mem_singleton.1 ha]; exact hc
   ·rw [run2_snoc]
    have hng : ¬ goneP false (step2 n1 n2 (run2 n1 n2 (s1,s2) u) c):=fun k=>by
     have:=(cdP_gone (W:=W)).2 k; omega
    refine ⟨h.stepR hr hc,hng,?_⟩
    rw [gone_iff] at hng
    rw [cdP,if_neg hng]) (relN L W n n1 n2).length 0 ((FS.none (relN L W n n1 n2).length).num (cdP W (s1,s2))) (fun z hz=>by
   rw [FS.num] at hz
   split at hz
   ·rename_i h0
    simp only [FS.none,List.nil_append,List.mem_singleton] at hz
    subst hz
    have hng : ¬ goneP false (s1,s2):=fun k=>by
     have:=(cdP_gone (W:=W)).2 k; omega
    refine ⟨[],Word.nil _,hs,hng,?_⟩
    rw [gone_iff] at hng
    rw [cdP,if_neg hng]; rfl
   ·simp [FS.none] at hz) (plc W x.1 x.2 : Int) (by
    rw [← foundM_go (by rw [PairsI.len]; exact hs0.2) hs0.1,hF]; exact hz)
  obtain ⟨u,hu,hr,hg,he⟩:=key
  have hxr:=hin x hx
  obtain ⟨e1,e2⟩:=plc_inj hxr.1 hxr.2.1 hr.1 hr.2.1 hxr.2.2.1 hr.2.2.1 (by omega)
  have e : x = run2 n1 n2 (s1,s2) u:=Prod.ext e1 e2
  exact ⟨e ▸ hg,u,hu,e.symm⟩
 ·rintro ⟨hg,u,hu,rfl⟩
  have back : ∀ (u : List Nat) (p : Int × Int),Word L u → inR W n p → (goneP false p ∨ p ∈ xs) → goneP false (run2 n1 n2 p u) ∨ run2 n1 n2 p u ∈ xs:=by
   intro u
   induction u with
   | nil=>exact fun p _ _ h=>h
   | cons c u ih=>
     intro p hu hp hpg
     refine ih _ hu.tail (h.stepR hp hu.head) ?_
     rcases hpg with hpg | hpx
     ·exact .inl (gone_step hpg c)
     ·by_cases hgs : goneP false (step2 n1 n2 p c)
      ·exact .inl hgs
      ·refine .inr ?_
       have hz : (plc W p.1 p.2 : Int) ∈ F.rows:=by rw [hrs]; exact List.mem_map.2 ⟨p,hpx,rfl⟩
       obtain ⟨j,hj,hje⟩:=List.getElem_of_mem hz
       have hc:=hFo.closed j hj c hu.head
       rw [hje,h.tgt hp hu.head] at hc
       have h0 : 0 ≤ cdP W (step2 n1 n2 p c):=Int.not_lt.1 fun k=>hgs (cdP_gone.1 k)
       have hc:=hc h0
       have hsr:=h.stepR hp hu.head
       obtain ⟨t,ht⟩:=Int.eq_ofNat_of_zero_le h0
       have hlt:=(cdP_lt hsr).2
       rw [ht,plcM,if_pos (by omega)] at hc
       simp only [Int.toNat_natCast] at hc
       obtain ⟨i,-,hi⟩:=hFo.inn.of t (by rw [PairsI.len]; omega) hc
       obtain ⟨hi1,hi2⟩:=List.getElem?_eq_some_iff.1 hi
       have hm : (t : Int) ∈ F.rows:=hi2 ▸ List.getElem_mem hi1
       rw [hrs] at hm
       obtain ⟨y,hy,hye⟩:=List.mem_map.1 hm
       have hyr:=hin y hy
       rw [gone_iff] at hgs
       rw [cdP,if_neg hgs] at ht
       obtain ⟨e1,e2⟩:=plc_inj hyr.1 hyr.2.1 hsr.1 hsr.2.1 hyr.2.2.1 hsr.2.2.1 (by omega)
       have e : y = step2 n1 n2 p c:=Prod.ext e1 e2
       rw [← e]; exact hy
  refine (back u (s1,s2) hu hs ?_).resolve_left hg
  by_cases hg0 : goneP false (s1,s2)
  ·exact .inl hg0
  ·refine .inr ?_
   have h0 : 0 ≤ cdP W (s1,s2):=Int.not_lt.1 fun k=>hg0 (cdP_gone.1 k)
   have h1:=(hFo.first h0).1
   obtain ⟨hi1,hi2⟩:=List.getElem?_eq_some_iff.1 h1
   have hm : cdP W (s1,s2) ∈ F.rows:=hi2 ▸ List.getElem_mem hi1
   rw [hrs] at hm
   obtain ⟨y,hy,hye⟩:=List.mem_map.1 hm
   have hyr:=hin y hy
   rw [gone_iff] at hg0
   rw [cdP,if_neg hg0] at hye
   obtain ⟨e1,e2⟩:=plc_inj hyr.1 hyr.2.1 hs.1 hs.2.1 hyr.2.2.1 hs.2.2.1 (by omega)
   have e : y = (s1,s2):=Prod.ext e1 e2
   rw [← e]; exact hy
theorem PairsI.rel (h : PairsI L W n s1 n1 f1 s2 n2 f2) {F : FS} (hF : foundM (cdP W (s1,s2)) (relN L W n n1 n2) L = F) (hFo : Found (cdP W (s1,s2)) (relN L W n n1 n2) L F) {xs ys : List (Int × Int)} (hrs : F.rows = xs.map fun x=>(plc W x.1 x.2 : Int)) (hin : ∀ x ∈ xs,inR W n x)
  (hp : ys.Perm xs) (hs : ys.Pairwise fun x y=>¬ befP y x) : RelI L n1 n2 (s1,s2) ys:=by
 have hnd : xs.Nodup:=by
  have:=hFo.inn.ok.d
  rw [hrs] at this
  exact List.Pairwise.of_map (S:=(· ≠ ·)) _ (fun a b h e=>h (by rw [e])) this
 have hnd2:=(hp.nodup_iff).2 hnd
 refine ⟨?_,fun p=>by rw [hp.mem_iff]; exact h.mem hF hFo hrs hin p⟩
 exact (hs.and hnd2).imp fun ⟨a,b⟩=>befP.tri a (Ne.symm b)
end
end Go.Proofs.YthcoppfiahnpoaaGreat
namespace Go.Proofs.YthcoppfiahnpoaaGreat
open Go Sym
theorem en_buildP : enters Tryz.prog 52 = true:=by kernel_rfl
theorem foundM_found3 {L : Nat} {s s0 : Int} {next : List (List Int)} {fin : List Bool} (h : Shape (L : Int) s0 next fin) (h1 : -1 ≤ s) (h2 : s < next.length) : Found s next L (foundM s next L):=foundM_found2 h h1 h2
section
variable {base : Nat} {w0 w w' : World} {l rest : List Ow}
set_option maxHeartbeats 2000000 in
theorem buildP_r9 {mi pb rc k L S2 : Nat} {y : Int × Int} {caps2 : Array Value} {st : Int} {vn ve vf : Value} {ends : List Bool} {b : Bool} {xl : Nat} {tl : List Ow}
  (h : Hold base w0 w (oB ve ends :: oX 25 mi 4 [Vi L,Vi st,vn,ve] :: tl)) (hp : BoxP w pb y.1 y.2) (hl : ends.length ≤ 100000000) (hen : enters Tryz.prog S2 = true)
  (hend : ∀ w',RowKit.Below w.heap.size w w' → Calls Tryz.prog S2 ([pairV y] ++ caps2.toList).toArray w' fun e w2=>e = .returned (.bool b) ∧ RowKit.Below w'.heap.size w' w2)
  {Q : Exit → Act → World → Prop} {a : Act} {ops : Array Oper} {id : Nat} (hops : Sym.regionOf Tryz.f52.body 9 = some (id,ops))
  (hS : St Tryz.f52.ntmps a [(5,.func (.func S2) #[] caps2),(12,Vp rc),(17,Vp mi),(43,vf),(44,Vi xl),(45,Vi k),(19,Vp pb)])
  (hq : ∀ ve' a' w',St Tryz.f52.ntmps a' [(5,.func (.func S2) #[] caps2),(12,Vp rc),(17,Vp mi),(43,vf),(44,Vi xl),(45,Vi k)] → Hold base w0 w' (oB ve' (ends ++ [b]) :: oX 25 mi 4 [Vi L,Vi st,vn,ve'] :: tl) → Q .normal a' w') : (Code.region id ops true).wp Tryz.prog Q a w:=by
 cases hops
 refine any_cutx (α:=Value) 6 (fun _=>[(5,.func (.func S2) #[] caps2),(12,Vp rc),(17,Vp mi),(43,vf),(44,Vi xl),(45,Vi k)]) (fun ve' w'=>Hold base w0 w' (oB ve' (ends ++ [b]) :: oX 25 mi 4 [Vi L,Vi st,vn,ve'] :: tl)) mixed hS ?_ hq
 obtain ⟨gs,cs,rfl,hc⟩:=h.r.any (i:=0) rfl
 have hy : RowKit.Below w.drew.heap.size w.drew w.drew:=RowKit.Below.refl _ _
 have hD:=h.drew
 have hd : RowKit.Below w.heap.size w w.drew:=(RowKit.Below.refl _ _).drew
 have hpD:=hp.keep hd
 refine yT 0 tab_ok rfl (by kernel_rfl) hy rfl (rfl) ?_
 refine yL 1 tab_ok rfl (by kernel_rfl) hy rfl rfl (hD.r.xcell (i:=1) rfl (j:=3) rfl) ?_
 refine yT 2 tab_ok rfl (by kernel_rfl) hy rfl (rfl) ?_
 refine yT 3 tab_ok rfl (by kernel_rfl) hy rfl (Exists.intro ([Vi y.1,Vi y.2]) (And.intro rfl (And.intro (hpD.cells) rfl))) ?_
 refine y_one 4 (by kernel_rfl) (y_op 4 tab_ok rfl rfl rfl rfl ?_)
 refine And.intro hen ((hend w.drew hd).mono ?_)
 rintro e w2 ⟨rfl,k1⟩
 refine ⟨_,rfl,?_⟩
 refine And.intro (.inr k1) ?_
 refine y_one 5 (by kernel_rfl) (y_op 5 tab_ok rfl rfl rfl rfl ?_)
 refine Exists.intro [(0,.bool b)] (Exists.intro #[.bool b] (And.intro (And.intro rfl rfl) (And.intro (by decide) (And.intro (fillB1 _ _) ?_))))
 have hy2:=k1.alloc k1.size (.cells #[.bool b] 4)
 refine And.intro (.inr hy2) ?_
 have h3:=(hD.below k1).alloc (.cells #[.bool b] 4)
 have ask : AppAsk (w2.alloc (.cells #[.bool b] 4)) ⟨4,.bool,1,1,.bool false⟩ (.slice gs ends.length cs) ends.length (bools ends) (Vs w2.heap.size 1 1) 1 [.bool b] base:=
  ⟨h3.r.1 0 _ rfl,.inr ⟨_,0,_,rfl,cell_alloc_new rfl,trivial⟩,rfl,(by simp [Value.oneCell']),(by omega),(by show (ends.length + 1) * 1 ≤ _; omega),h3.s⟩
 refine y_one 6 (by kernel_rfl) (y_op 6 tab_ok rfl rfl rfl rfl ?_)
 refine Exists.intro _ (Exists.intro _ (Exists.intro _ (Exists.intro _ (Exists.intro _ (And.intro (ask) (And.intro (fun _ h=>h.symm) (And.intro (by decide) ?_)))))))
 rintro v' w3 hown hgr - hat
 refine And.intro (.inl (by kernel_rfl)) ?_
 have h4:=h3.appB (ys:=[b]) (i:=0) rfl hown hgr hat
 obtain ⟨g2,n2,c2,hv⟩:=own_form hown
 subst hv
 refine yG 7 tab_ok rfl (by kernel_rfl) (.inl (by kernel_rfl)) rfl rfl ?_
 refine y_one 8 (by kernel_rfl) (y_op0 8 tab_ok rfl rfl rfl ?_)
 refine And.intro rfl (And.intro rfl (And.intro ⟨_,h4.r.xcell (i:=1) rfl (j:=3) rfl⟩ (And.intro (h4.r.free (i:=1) rfl 3) (And.intro (.inl (by kernel_rfl)) ?_))))
 exact y_endx (.slice g2 n2 c2) (by kernel_rfl) ⟨rfl,rfl,rfl,rfl,rfl,rfl,trivial⟩ (h4.xstore (i:=1) rfl 3 (.slice g2 n2 c2))
set_option maxHeartbeats 2000000 in
theorem buildP_any {n W L lim S S2 : Nat} {x0 : Int × Int} {caps caps2 : Array Value} {next : List (List Int)} {fin : List Bool} {s0 : Int} {F : FS} (h : Hold base w0 w rest) (hn : n ≤ 100000) (hnl : next.length = n) (hx0 : inR W n x0) (hL : L ≤ 100000) (hlim : n ≤ lim) (hlim2 : lim ≤ 1000000)
  (hsh : Shape (L : Int) s0 next fin) (hen : enters Tryz.prog S = true) (hen2 : enters Tryz.prog S2 = true)
  (hstep : ∀ (y : Int × Int) (c : Nat) (w : World),inR W n y → c < L → Hold base w0 w rest → Calls Tryz.prog S ([pairV y,Vi c] ++ caps.toList).toArray w fun e w'=>∃ z : Int × Int,inR W n z ∧ e = .returned (pairV z) ∧ tgtM next (plc W y.1 y.2 : Int) c = cdP W z ∧ RowKit.Below w.heap.size w w')
  (hend : ∀ (y : Int × Int) (w : World),inR W n y → Hold base w0 w rest → Calls Tryz.prog S2 ([pairV y] ++ caps2.toList).toArray w fun e w'=>e = .returned (.bool (fin.getD (plc W y.1 y.2) false)) ∧ RowKit.Below w.heap.size w w')
  (hF : foundM (cdP W x0) next L = F) :
  Calls Tryz.prog 52 #[pairV x0,pairV (-1,-1),Vi L,Vi lim,.func (.func S) #[] caps,.func (.func S2) #[] caps2] w fun e w'=>∃ (vn ve : Value) (vs : List Value),e = .returned (.tuple #[.agg #[Vi L,Vi (if F.rows.length = 0 then -1 else 0 : Int),vn,ve],Vi 0]) ∧ Found (cdP W x0) next L F ∧ vs.length = F.rows.length ∧ (∀ l ∈ F.rows.map (renumM F.place next L),∀ x ∈ l,I64 x) ∧ Hold base w0 w' (oB ve (foundFin F fin) :: (nextR vn vs (F.rows.map (renumM F.place next L)) ++ rest)):=by
 refine Sym.enter (args:=[pairV x0,pairV (-1,-1),Vi L,Vi lim,.func (.func S) #[] caps,.func (.func S2) #[] caps2]) Tryz.func52 rfl rfl rfl (fun a0 hS0=>?_)
 obtain ⟨B,hBB⟩ : ∃ B,B = w.heap.size:=⟨_,rfl⟩
 refine wp_seq (seq_cutx (α:=Nat) (fun rc=>[(6,Vp B),(7,Vp (B + 1)),(2,Vi L),(3,Vi lim),(4,.func (.func S) #[] caps),(5,.func (.func S2) #[] caps2),(12,Vp rc)]) (fun rc w'=>Hold base w0 w' (oX 25 rc 4 [Vi 0,Vi 0,.slice none 0 0,.slice none 0 0] :: oX 48 (B + 1) 2 [Vi (-1),Vi (-1)] :: oX 48 B 2 [Vi x0.1,Vi x0.2] :: rest)) tab_ok hS0 ?_ (fun rc a w1 hS h=>?_))
 ·have h1:=((h.box (T:=48) (k:=2) #[Vi x0.1,Vi x0.2] rfl).box (T:=48) (k:=2) #[Vi (-1),Vi (-1)] rfl).box (T:=25) (k:=4) #[Vi 0,Vi 0,.slice none 0 0,.slice none 0 0] rfl
  have e : (w.alloc (.cells #[Vi x0.1,Vi x0.2] 48)).heap.size = B + 1:=by rw [alloc_size,hBB]
  rw [e,← hBB] at h1
  have e' : (w.alloc (.cells (pairV x0).cells 48)).heap.size = B + 1:=e
  refine zB rfl ?_
  refine zB rfl ?_
  rw [e',← hBB]
  refine zB rfl ?_
  repeat first|refine zP rfl ?_|refine zK rfl ?_
  exact o_nil ⟨_,⟨rfl,rfl,rfl,rfl,rfl,rfl,rfl,trivial⟩,h1⟩
 replace h:=h.perm (.cons _ (.swap _ _ _))
 have hc0:=cdP_lt hx0
 have hFo : Found (cdP W x0) next L F:=by
  rw [← hF]; exact foundM_found3 hsh hc0.1 (by rw [hnl]; exact hc0.2)
 have hr : ∀ r : Int,0 ≤ r → r < n → ∀ c,c < L → -1 ≤ tgtM next r c ∧ tgtM next r c < n:=fun r h1 h2 c hc=>by
  have:=tgt_range hsh r h1 (by omega) c (by rw [Int.toNat_natCast]; exact hc)
  rwa [hnl] at this
 refine wp_seq (seq_cutx (α:=Nat) (fun fb=>[(6,Vp B),(7,Vp (B + 1)),(2,Vi L),(3,Vi lim),(4,.func (.func S) #[] caps),(5,.func (.func S2) #[] caps2),(12,Vp rc),(14,Vp fb)]) (fun fb w'=>FindP base w0 w' fb W n (FS.none n) (oX 25 rc 4 [Vi 0,Vi 0,.slice none 0 0,.slice none 0 0] :: oX 48 B 2 [Vi x0.1,Vi x0.2] :: oX 48 (B + 1) 2 [Vi (-1),Vi (-1)] :: rest)) tab_ok hS ?_ (fun fb a w2 hS h=>?_))
 ·refine zA ([Vi (-1),Vi (-1)]) rfl rfl (⟨h.r.xcell (i:=2) rfl (j:=0) rfl,h.r.xcell (i:=2) rfl (j:=1) rfl,trivial⟩) ?_
  refine zF rfl (en_newFinderP) (newFinderP_any h W n) ?_
  rintro e w2 ⟨fb,rfl,h2⟩
  refine ⟨_,rfl,?_⟩
  repeat first|refine zP rfl ?_|refine zK rfl ?_
  exact o_nil ⟨fb,⟨rfl,rfl,rfl,rfl,rfl,rfl,rfl,rfl,trivial⟩,h2⟩
 have cx0 : ∀ {w'},FindP base w0 w' fb W n (FS.none n) (oX 25 rc 4 [Vi 0,Vi 0,.slice none 0 0,.slice none 0 0] :: oX 48 B 2 [Vi x0.1,Vi x0.2] :: oX 48 (B + 1) 2 [Vi (-1),Vi (-1)] :: rest) → cellsAt w'.cell? B 0 [Vi x0.1,Vi x0.2]:=fun h=>by
  obtain ⟨mb,vf,xs,h,-,-,-⟩:=h
  exact ⟨h.r.xcell (i:=3) rfl (j:=0) rfl,h.r.xcell (i:=3) rfl (j:=1) rfl,trivial⟩
 refine wp_seq (seq_cutx (α:=Value × List Value) (fun v=>[(6,Vp B),(7,Vp (B + 1)),(2,Vi L),(3,Vi lim),(4,.func (.func S) #[] caps),(5,.func (.func S2) #[] caps2),(12,Vp rc),(14,Vp fb),(15,v.1),(16,.bool true)]) (fun v w'=>v.2.length = F.rows.length ∧ FIn n F ∧ FindP base w0 w' fb W n F (nextR v.1 v.2 (F.rows.map (renumM F.place next L)) ++ (oX 25 rc 4 [Vi 0,Vi 0,.slice none 0 0,.slice none 0 0] :: oX 48 B 2 [Vi x0.1,Vi x0.2] :: oX 48 (B + 1) 2 [Vi (-1),Vi (-1)] :: rest))) tab_ok hS ?_ (fun v a w3 hS h=>?_))
 ·repeat first|refine zP rfl ?_|refine zK rfl ?_
  refine zA ([Vi x0.1,Vi x0.2]) rfl rfl (cx0 h) ?_
  repeat first|refine zP rfl ?_|refine zK rfl ?_
  refine zF rfl (en_searchP) (searchP_any h hn hnl hx0 hL hlim hlim2 hr hen (fun y c w hy hc hw=>hstep y c w hy hc hw.tail.tail.tail) hF) ?_
  rintro e w3 ⟨vn,vs,rfl,k1,k2,k3⟩
  refine ⟨_,rfl,?_⟩
  repeat first|refine zP rfl ?_|refine zK rfl ?_
  exact o_nil ⟨(vn,vs),⟨rfl,rfl,rfl,rfl,rfl,rfl,rfl,rfl,rfl,rfl,trivial⟩,k1,k2,k3⟩
 obtain ⟨vn,vs⟩:=v
 simp only at hS h
 obtain ⟨hvs,hIF,h⟩:=h
 obtain ⟨gn,cn,hvn⟩ : ∃ g c,vn = .slice g vs.length c:=by
  obtain ⟨mb,vf,xs,h,-,-,-⟩:=h
  obtain ⟨g,c,e,-⟩:=h.r.any (i:=2) (v:=vn) (e:=35) (s:=1) (n:=vs.length) (xs:=vs) rfl
  exact ⟨g,c,e⟩
 refine wp_seq (wp_seq (seq_cut [(6,Vp B),(7,Vp (B + 1)),(2,Vi L),(3,Vi lim),(4,.func (.func S) #[] caps),(5,.func (.func S2) #[] caps2),(12,Vp rc),(14,Vp fb),(15,vn),(32,.bool false)] (· = w3) tab_ok hS ?_ (fun a w4 hS hw=>?_)))
 ·repeat first|refine zP rfl ?_|refine zK rfl ?_
  exact o_nil ⟨⟨rfl,rfl,rfl,rfl,rfl,rfl,rfl,rfl,rfl,rfl,trivial⟩,rfl⟩
 subst hw
 refine cond hS rfl (fun hT=>by cases hT) (fun _=>wp_skip ?_)
 obtain ⟨fn1,fn2⟩:=first_num hFo
 have cx1 : cellsAt w4.cell? B 0 [Vi x0.1,Vi x0.2]:=by
  obtain ⟨mb,vf,xs,h,-,-,-⟩:=h
  have h':=h.perm (l':=oX 48 B 2 [Vi x0.1,Vi x0.2] :: oX 48 (B + 1) 2 [Vi (-1),Vi (-1)] :: rest ++ (findX 78 fb [Vi (-1),Vi (-1)] mb vf :: oP vf xs :: (nextR vn vs (F.rows.map (renumM F.place next L)) ++ [oX 25 rc 4 [Vi 0,Vi 0,.slice none 0 0,.slice none 0 0]]))) (by
   rw [show (findX 78 fb [Vi (-1),Vi (-1)] mb vf :: oP vf xs :: (nextR vn vs (F.rows.map (renumM F.place next L)) ++ (oX 25 rc 4 [Vi 0,Vi 0,.slice none 0 0,.slice none 0 0] :: oX 48 B 2 [Vi x0.1,Vi x0.2] :: oX 48 (B + 1) 2 [Vi (-1),Vi (-1)] :: rest))) = (findX 78 fb [Vi (-1),Vi (-1)] mb vf :: oP vf xs :: (nextR vn vs (F.rows.map (renumM F.place next L)) ++ [oX 25 rc 4 [Vi 0,Vi 0,.slice none 0 0,.slice none 0 0]])) ++ (oX 48 B 2 [Vi x0.1,Vi x0.2] :: oX 48 (B + 1) 2 [Vi (-1),Vi (-1)] :: rest) by simp]
   exact List.perm_append_comm)
  exact ⟨h'.r.xcell (i:=0) rfl (j:=0) rfl,h'.r.xcell (i:=0) rfl (j:=1) rfl,trivial⟩
 refine wp_seq (seq_cutx (α:=Nat) (fun mi=>[(5,.func (.func S2) #[] caps2),(12,Vp rc),(14,Vp fb),(17,Vp mi)]) (fun mi w'=>∃ (mb : Nat) (vf : Value) (xs : List (Int × Int)),Hold base w0 w' (oB (.slice none 0 0) [] :: oX 25 mi 4 [Vi L,Vi (if F.rows.length = 0 then -1 else 0 : Int),vn,.slice none 0 0] :: oX 25 rc 4 [Vi 0,Vi 0,.slice none 0 0,.slice none 0 0] :: findX 78 fb [Vi (-1),Vi (-1)] mb vf :: oP vf xs :: (nextR vn vs (F.rows.map (renumM F.place next L)) ++ (oX 48 B 2 [Vi x0.1,Vi x0.2] :: oX 48 (B + 1) 2 [Vi (-1),Vi (-1)] :: rest))) ∧ F.rows = xs.map (fun x=>(plc W x.1 x.2 : Int)) ∧ ∀ x ∈ xs,inR W n x) tab_ok hS ?_ (fun mi a w5 hS h=>?_))
 ·subst hvn
  have hnum:=numberP_any h hIF (by omega) (by have:=hIF.ok.cap; omega) hx0
  rw [fn1,fn2] at hnum
  repeat first|refine zP rfl ?_|refine zK rfl ?_
  refine zA ([Vi x0.1,Vi x0.2]) rfl rfl (cx1) ?_
  refine zF rfl (en_numberP) (hnum) ?_
  rintro e w5 ⟨rfl,mb,vf,xs,h,hrs,hm,hb,hin⟩
  refine ⟨_,rfl,?_⟩
  repeat first|refine zP rfl ?_|refine zK rfl ?_
  refine zB rfl ?_
  refine o_step0 rfl rfl (And.intro rfl (And.intro rfl (And.intro (own_cells4 (OwnB.new w5 [Vi 0,Vi 0,.slice none 0 0,.slice none 0 0] 25)) ?_)))
  have h2:=(h.var (T:=25) (k:=4) [Vi 0,Vi 0,.slice none 0 0,.slice none 0 0] [Vi L,Vi (if F.rows.length = 0 then -1 else 0 : Int),.slice gn vs.length cn,.slice none 0 0] rfl rfl).1
  refine o_nil ⟨_,⟨rfl,rfl,rfl,rfl,trivial⟩,mb,vf,xs,?_,hrs,hin⟩
  refine (h2.nil 4 1).perm (.cons _ (.cons _ ?_))
  exact List.perm_middle (l₁:=findX 78 fb [Vi (-1),Vi (-1)] mb vf :: oP vf xs :: nextR (.slice gn vs.length cn) vs (F.rows.map (renumM F.place next L))) (l₂:=oX 48 B 2 [Vi x0.1,Vi x0.2] :: oX 48 (B + 1) 2 [Vi (-1),Vi (-1)] :: rest)
 obtain ⟨mb,vf,xs,h,hrs,hin⟩:=h
 have hxl : F.rows.length = xs.length:=by rw [hrs,List.length_map]
 have hcap:=hIF.ok.cap
 obtain ⟨TL,hTL⟩ : ∃ TL,TL = oX 25 rc 4 [Vi 0,Vi 0,.slice none 0 0,.slice none 0 0] :: findX 78 fb [Vi (-1),Vi (-1)] mb vf :: oP vf xs :: (nextR vn vs (F.rows.map (renumM F.place next L)) ++ (oX 48 B 2 [Vi x0.1,Vi x0.2] :: oX 48 (B + 1) 2 [Vi (-1),Vi (-1)] :: rest)):=⟨_,rfl⟩
 refine wp_seq (wp_seq (seq_cut [(5,.func (.func S2) #[] caps2),(12,Vp rc),(17,Vp mi),(43,vf),(44,Vi xs.length),(45,Vi (0 : Nat))] (· = w5) tab_ok hS ?_ (fun a w' hS hw=>?_)))
 ·obtain ⟨gf,cf,rfl,-,-⟩:=h.r.any (i:=4) rfl
  repeat first|refine zP rfl ?_|refine zK rfl ?_
  refine zL rfl (h.r.xcell (i:=3) rfl (j:=3) rfl) ?_
  repeat first|refine zP rfl ?_|refine zK rfl ?_
  exact o_nil ⟨⟨rfl,rfl,rfl,rfl,rfl,rfl,trivial⟩,rfl⟩
 subst hw
 rw [← hTL] at h
 refine wp_block (loop0 hS (fun γ E w'=>∃ (k : Nat) (ve : Value),k ≤ xs.length ∧ γ = xs.length - k ∧ E = [(5,.func (.func S2) #[] caps2),(12,Vp rc),(17,Vp mi),(43,vf),(44,Vi xs.length),(45,Vi k)] ∧ Hold base w0 w' (oB ve ((F.rows.take k).map fun r=>fin.getD r.toNat false) :: oX 25 mi 4 [Vi L,Vi (if F.rows.length = 0 then -1 else 0 : Int),vn,ve] :: TL)) xs.length ⟨0,.slice none 0 0,by omega,by omega,rfl,h⟩ ?_)
 clear hS h
 rintro γ E w6 a ⟨k,ve,hk,rfl,rfl,h⟩ hS
 refine wp_seq (seq_cut [(5,.func (.func S2) #[] caps2),(12,Vp rc),(17,Vp mi),(43,vf),(44,Vi xs.length),(45,Vi k),(46,.bool (decide (k < xs.length)))] (· = w6) tab_ok hS ?_ (fun a w7 hS hw=>?_))
 ·repeat first|refine zP rfl ?_|refine zK rfl ?_
  refine zC rfl (lt_nat _ _) ?_
  repeat first|refine zP rfl ?_|refine zK rfl ?_
  exact o_nil ⟨⟨rfl,rfl,rfl,rfl,rfl,rfl,rfl,trivial⟩,rfl⟩
 subst hw
 refine wp_seq (cond hS rfl (fun hT=>wp_skip ?_) (fun hF'=>?_))
 rotate_left
 ·have hkk : k = F.rows.length:=by have:=of_decide_eq_false hF'; omega
  rw [hkk,List.take_length] at h
  refine wp_exit ?_
  repeat (first | refine then_exit ?_ | refine block_exit ?_ | refine block_other rfl ?_)
  subst hTL
  refine wp_seq (seq_cut [(12,Vp rc),(13,Vi 0)] (fun w'=>Hold base w0 w' ((oB ve (foundFin F fin) :: oX 25 mi 4 [Vi L,Vi (if F.rows.length = 0 then -1 else 0 : Int),vn,ve] :: oX 25 rc 4 [Vi L,Vi (if F.rows.length = 0 then -1 else 0 : Int),vn,ve] :: findX 78 fb [Vi (-1),Vi (-1)] mb vf :: [oP vf xs]) ++ (nextR vn vs (F.rows.map (renumM F.place next L)) ++ (oX 48 B 2 [Vi x0.1,Vi x0.2] :: oX 48 (B + 1) 2 [Vi (-1),Vi (-1)] :: rest)))) tab_ok hS ?_ (fun a w8 hS h=>?_))
  ·refine zA ([Vi L,Vi (if F.rows.length = 0 then -1 else 0 : Int),vn,ve]) rfl rfl (⟨h.r.xcell (i:=1) rfl (j:=0) rfl,h.r.xcell (i:=1) rfl (j:=1) rfl,h.r.xcell (i:=1) rfl (j:=2) rfl,h.r.xcell (i:=1) rfl (j:=3) rfl,trivial⟩) ?_
   obtain ⟨ge,ce,hve2,-⟩:=h.r.any (i:=0) (v:=ve) (e:=4) (s:=1) (n:=(foundFin F fin).length) (xs:=bools (foundFin F fin)) rfl
   have hone : oneCells (Value.agg #[Vi L,Vi (if F.rows.length = 0 then -1 else 0 : Int),vn,ve]).cells.toList = true:=by rw [hvn,hve2]; rfl
   refine o_step0 rfl rfl (And.intro rfl (And.intro hone (And.intro (x_cells4 h.r (i:=2) rfl) ?_)))
   repeat first|refine zP rfl ?_|refine zK rfl ?_
   exact o_nil ⟨⟨rfl,rfl,trivial⟩,h.xput4 (i:=2) rfl _ _ _ _⟩
  have hI64 : ∀ l ∈ F.rows.map (renumM F.place next L),∀ x ∈ l,I64 x:=fun l hl x hx=>by
   obtain ⟨r,hr1,rfl⟩:=List.mem_map.1 hl
   obtain ⟨c,hc,rfl⟩:=List.mem_map.1 hx
   obtain ⟨q1,q2,-⟩:=hIF.ok.r r hr1
   have:=plcM_in hIF (hr r q1 q2 c (List.mem_range.1 hc)).2
   unfold I64; omega
  have hfin:=(((h.erase 1).erase 1).erase 1).erase 1
  have hfin2 : Hold base w0 w8 (oB ve (foundFin F fin) :: (nextR vn vs (F.rows.map (renumM F.place next L)) ++ rest)):=by
   refine (hfin.perm (l':=oX 48 B 2 [Vi x0.1,Vi x0.2] :: oX 48 (B + 1) 2 [Vi (-1),Vi (-1)] :: oB ve (foundFin F fin) :: (nextR vn vs (F.rows.map (renumM F.place next L)) ++ rest)) ?_).tail.tail
   show List.Perm (oB ve (foundFin F fin) :: (nextR vn vs (F.rows.map (renumM F.place next L)) ++ (oX 48 B 2 [Vi x0.1,Vi x0.2] :: oX 48 (B + 1) 2 [Vi (-1),Vi (-1)] :: rest))) _
   refine .trans (.cons _ ((List.perm_middle).trans (.cons _ List.perm_middle))) ?_
   exact .trans (.swap _ _ _) (.cons _ (.swap _ _ _))
  refine wp_ret ?_
  repeat (first | refine then_ret ?_ | refine block_ret ?_)
  refine retc2 tab_ok hS rfl rfl rfl rfl rfl (o:=0) (vs:=[Vi L,Vi (if F.rows.length = 0 then -1 else 0 : Int),vn,ve]) ⟨h.r.xcell (i:=2) rfl (j:=0) rfl,h.r.xcell (i:=2) rfl (j:=1) rfl,h.r.xcell (i:=2) rfl (j:=2) rfl,h.r.xcell (i:=2) rfl (j:=3) rfl,trivial⟩ rfl ⟨vn,ve,vs,rfl,hFo,hvs,hI64,hfin2⟩
 have hkk : k < xs.length:=of_decide_eq_true hT
 have hkr : k < F.rows.length:=by omega
 obtain ⟨y,hye⟩ : ∃ y,y = xs[k]:=⟨_,rfl⟩
 have hyr : ((plc W y.1 y.2 : Nat) : Int) = F.rows[k]:=by
  rw [hye]
  simp only [hrs,List.getElem_map]
 have hyn : inR W n y:=by rw [hye]; exact hin _ (List.getElem_mem hkk)
 refine wp_seq (wp_block (wp_seq (seq_cutx (α:=Nat) (fun pb=>[(5,.func (.func S2) #[] caps2),(12,Vp rc),(17,Vp mi),(43,vf),(44,Vi xs.length),(45,Vi k),(19,Vp pb)]) (fun pb w'=>Hold base w0 w' (oB ve ((F.rows.take k).map fun r=>fin.getD r.toNat false) :: oX 25 mi 4 [Vi L,Vi (if F.rows.length = 0 then -1 else 0 : Int),vn,ve] :: TL) ∧ BoxP w' pb y.1 y.2) tab_ok hS ?_ (fun pb a w8 hS h=>?_))))
 ·subst hTL
  obtain ⟨gf,cf,rfl,-⟩:=h.r.nilOr (i:=4) rfl (by omega)
  have hcell:=h.r.cP (i:=4) rfl hkk
  rw [← hye] at hcell
  have hnew:=OwnB.new w7 [Vi 0,Vi 0] 48
  obtain ⟨h5,h6⟩:=put_pair hnew (below_alloc w7 (.cells #[Vi 0,Vi 0] 48)) (Nat.le_refl _) (Vi y.1) (Vi y.2)
  repeat first|refine zP rfl ?_|refine zK rfl ?_
  refine zI rfl (rfl) (hkk) ?_
  refine zA ([Vi y.1,Vi y.2]) rfl rfl (hcell) ?_
  refine zB rfl ?_
  refine o_step0 rfl rfl (And.intro rfl (And.intro rfl (And.intro (own_cells2 hnew) ?_)))
  exact o_nil ⟨_,⟨rfl,rfl,rfl,rfl,rfl,rfl,rfl,trivial⟩,h.below h6,⟨h5.cell (i:=0) rfl,h5.cell (i:=1) rfl⟩⟩
 obtain ⟨h,hpb⟩:=h
 refine buildP_r9 (b:=fin.getD (plc W y.1 y.2) false) h hpb (by simp; omega) hen2 (fun w' hw'=>hend y w' hyn (by
  have:=h.below hw'
  subst hTL
  exact (this.drop (A:=oB ve ((F.rows.take k).map fun r=>fin.getD r.toNat false) :: oX 25 mi 4 [Vi L,Vi (if F.rows.length = 0 then -1 else 0 : Int),vn,ve] :: oX 25 rc 4 [Vi 0,Vi 0,.slice none 0 0,.slice none 0 0] :: findX 78 fb [Vi (-1),Vi (-1)] mb vf :: oP vf xs :: nextR vn vs (F.rows.map (renumM F.place next L)))).tail.tail)) (by rfl) hS (fun ve' a w9 hS h=>?_)
 refine block_normal ?_
 refine seq_cut [(5,.func (.func S2) #[] caps2),(12,Vp rc),(17,Vp mi),(43,vf),(44,Vi xs.length),(45,Vi (k + 1 : Nat))] (· = w9) tab_ok hS ?_ (fun a w10 hS hw=>?_)
 ·repeat first|refine zP rfl ?_|refine zK rfl ?_
  refine zN rfl (i64_add k 1 (by omega)) ?_
  repeat first|refine zP rfl ?_|refine zK rfl ?_
  exact o_nil ⟨⟨rfl,rfl,rfl,rfl,rfl,rfl,trivial⟩,rfl⟩
 subst hw
 refine ⟨xs.length - (k + 1),_,by omega,⟨k + 1,ve',by omega,rfl,rfl,?_⟩,hS⟩
 rw [List.take_succ_eq_append_getElem hkr,List.map_append,List.map_singleton,← hyr,Int.toNat_natCast]
 exact h
end
end Go.Proofs.YthcoppfiahnpoaaGreat
namespace Go.Proofs.YthcoppfiahnpoaaGreat
open Go Sym
theorem find_shape {L s s0 : Int} {next : List (List Int)} {fin : List Bool} (h : Shape L s0 next fin) {f : FS} (hf : Found s next L.toNat f) :
  Shape L (if f.rows.length = 0 then -1 else 0) (f.rows.map (renumM f.place next L.toNat)) (foundFin f fin) ∧
   Alike L.toNat (f.rows.map (renumM f.place next L.toNat)) (foundFin f fin) (if f.rows.length = 0 then -1 else 0) next fin s:=by
 have hlen : (f.rows.map (renumM f.place next L.toNat)).length = f.rows.length:=by simp
 have hrow : ∀ j (hj : j < f.rows.length),∃ k : Nat,k < next.length ∧ f.rows[j] = k ∧ plcM f.place k = j:=fun j hj=>by
  obtain ⟨a,b,_⟩:=hf.inn.ok.r _ (List.getElem_mem hj)
  obtain ⟨k,hk⟩:=Int.eq_ofNat_of_zero_le a
  refine ⟨k,by omega,hk,?_⟩
  have:=hf.inn.at' j hj
  rw [hk] at this
  rw [plcM,if_pos (by omega)]; exact this
 have hal : ∀ j (hj : j < f.rows.length),Alike L.toNat (f.rows.map (renumM f.place next L.toNat)) (foundFin f fin) j next fin f.rows[j]:=fun j hj w hw=>by
  obtain ⟨k,k1,k2,k3⟩:=hrow j hj
  rw [k2,← find_alike h hf w k hw (by omega) (fun _=>by omega),k3]
 have hpos : 0 < f.rows.length ↔ 0 ≤ s:=by
  constructor
  ·intro h0
   refine Int.not_lt.1 fun hn=>?_
   rw [hf.none hn] at h0
   simp at h0
  ·intro h0
   exact (List.getElem?_eq_some_iff.1 (hf.first h0).1).1
 refine ⟨⟨h.L0,by simp [foundFin],by split <;> omega,by split <;> omega,fun h0=>?_,fun k hk=>?_⟩,?_⟩
 ·rw [hlen] at h0
  rw [if_neg (by omega)]; omega
 ·have hk' : k < f.rows.length:=by simpa using hk
  simp only [List.getElem_map]
  refine ⟨by rw [renumM_len]; have:=h.L0; omega,fun c hc=>?_⟩
  rw [renumM_get]
  rw [renumM_len] at hc
  rw [show ((List.map (renumM f.place next L.toNat) f.rows).length : Int) = f.rows.length by simp]
  obtain ⟨r,r1,r2,r3⟩:=hrow k hk'
  obtain ⟨t1,t2⟩:=tgt_range h f.rows[k] (by omega) (by omega) c hc
  by_cases hneg : tgtM next f.rows[k] c < 0
  ·rw [plcM_neg hneg]; omega
  ·have hc2:=hf.closed k hk' c hc (by omega)
   obtain ⟨t,ht⟩:=Int.eq_ofNat_of_zero_le (Int.not_lt.1 hneg)
   rw [ht] at hc2 t2 ⊢
   have hpe : plcM f.place t = f.place.getD t 0:=by rw [plcM,if_pos (by omega)]; rfl
   rw [hpe] at hc2 ⊢
   obtain ⟨j,e1,e2⟩:=hf.inn.of t (by omega) hc2
   have:=(List.getElem?_eq_some_iff.1 e2).1
   omega
 ·split
  ·rename_i h0
   have hs : s < 0:=by
    refine Int.not_le.1 fun hn=>?_
    have:=hpos.2 hn
    omega
   intro w _
   rw [accM_neg _ _ w (by decide),accM_neg _ _ w hs]
  ·rename_i h0
   have hs:=hpos.1 (by omega)
   obtain ⟨g1,g2⟩:=hf.first hs
   obtain ⟨g3,g4⟩:=List.getElem?_eq_some_iff.1 g1
   have:=hal 0 g3
   rwa [g4] at this
def keepB (both : Bool) (p : Int × Int) : Int × Int:=if both = true ∧ (p.1 < 0 ∨ p.2 < 0) then (-1,-1) else p
def joinN (L W n : Nat) (n1 n2 : List (List Int)) (both : Bool) : List (List Int):=(List.range n).map fun k=>(List.range L).map fun c=>cdP W (keepB both (step2 n1 n2 (decP W k) c))
def joinF (W n : Nat) (f1 f2 : List Bool) (both : Bool) : List Bool:=(List.range n).map fun k=>joinB both (endsM f1 (decP W k).1) (endsM f2 (decP W k).2)
theorem keep_gone {W : Nat} {both : Bool} {p : Int × Int} (h : goneP both p) : cdP W (keepB both p) = -1:=by
 unfold goneP okPut at h
 unfold keepB
 cases both with
 | true=>
   simp only [Bool.not_true,Bool.false_or,Bool.and_eq_false_iff,decide_eq_false_iff_not] at h
   rw [if_pos ⟨rfl,by omega⟩]
   rfl
 | false=>
   simp only [Bool.not_false,Bool.true_or,Bool.true_eq_false,false_or] at h
   rw [if_neg (by simp)]
   unfold cdP
   rw [if_pos h]
theorem keep_on {W : Nat} {both : Bool} {p : Int × Int} (h : ¬ goneP both p) : keepB both p = p ∧ cdP W p = (plc W p.1 p.2 : Int):=by
 unfold goneP okPut at h
 unfold keepB
 cases both with
 | true=>
   simp only [Bool.not_true,Bool.false_or,Bool.and_eq_false_iff,decide_eq_false_iff_not] at h
   refine ⟨if_neg (by omega),?_⟩
   unfold cdP
   rw [if_neg (by omega)]
 | false=>
   simp only [Bool.not_false,Bool.true_or,Bool.true_eq_false,false_or] at h
   refine ⟨if_neg (by simp),?_⟩
   unfold cdP
   rw [if_neg h]
instance (both : Bool) (p : Int × Int) : Decidable (goneP both p):=by unfold goneP; infer_instance
section
variable {L W n : Nat} {n1 n2 : List (List Int)} {f1 f2 : List Bool} {s1 s2 : Int} {both : Bool}
theorem PairsI.keepR (h : PairsI L W n s1 n1 f1 s2 n2 f2) {x : Int × Int} (hx : inR W n x) : inR W n (keepB both x):=by
 unfold keepB
 split
 ·exact h.mk' (by decide) (by show (-1 : Int) < _; omega) (by decide) (by show (-1 : Int) < _; omega)
 ·exact hx
theorem PairsI.jtgt (_h : PairsI L W n s1 n1 f1 s2 n2 f2) {x : Int × Int} (hx : inR W n x) {c : Nat} (hc : c < L) : tgtM (joinN L W n n1 n2 both) (plc W x.1 x.2 : Int) c = cdP W (keepB both (step2 n1 n2 x c)):=by
 have hlt:=hx.2.2.2.2.2
 rw [tgtM,Int.toNat_natCast]
 simp only [joinN,List.getD_eq_getElem?_getD,List.getElem?_map,List.getElem?_range hlt,Option.map_some,Option.getD_some,List.getElem?_range hc]
 rw [dec_plc hx]
theorem PairsI.jfin (_h : PairsI L W n s1 n1 f1 s2 n2 f2) {x : Int × Int} (hx : inR W n x) : (joinF W n f1 f2 both).getD (plc W x.1 x.2) false = joinB both (endsM f1 x.1) (endsM f2 x.2):=by
 have hlt:=hx.2.2.2.2.2
 simp only [joinF,List.getD_eq_getElem?_getD,List.getElem?_map,List.getElem?_range hlt,Option.map_some,Option.getD_some]
 rw [dec_plc hx]
theorem joinN_len : (joinN L W n n1 n2 both).length = n:=by simp [joinN]
theorem PairsI.jshape (h : PairsI L W n s1 n1 f1 s2 n2 f2) : Shape (L : Int) 0 (joinN L W n n1 n2 both) (joinF W n f1 f2 both):=by
 have hn0 : 0 < n:=by rw [h.en,h.eW]; exact Nat.mul_pos (by omega) (by omega)
 refine ⟨by omega,by rw [joinN_len]; simp [joinF],by omega,by rw [joinN_len]; omega,fun _=>by omega,fun k hk=>?_⟩
 have hk' : k < n:=by rw [joinN_len] at hk; exact hk
 rw [joinN_len]
 simp only [joinN,List.getElem_map,List.getElem_range,List.length_map,List.length_range]
 exact ⟨trivial,fun j hj=>cdP_lt (h.keepR (h.stepR (h.decR hk') (by simpa using hj)))⟩
theorem PairsI.jacc (h : PairsI L W n s1 n1 f1 s2 n2 f2) : ∀ (w : List Nat) (x : Int × Int),Word L w → inR W n x → accM (joinN L W n n1 n2 both) (joinF W n f1 f2 both) (cdP W (keepB both x)) w = joinB both (accM n1 f1 x.1 w) (accM n2 f2 x.2 w)
 | w,x,hw,hx=>by
   by_cases hg : goneP both x
   ·rw [keep_gone hg,accM_neg _ _ _ (by decide),accM_gone hg]
   obtain ⟨k1,k2⟩:=keep_on (W:=W) hg
   rw [k1,k2]
   cases w with
   | nil=>
     rw [accM_nil,accM_nil,accM_nil,endsM,Int.toNat_natCast,h.jfin hx,decide_eq_true (Int.natCast_nonneg _),Bool.true_and]
   | cons c w=>
     rw [accM_cons,accM_cons,accM_cons,tgt_step (by omega),h.jtgt hx hw.head]
     exact h.jacc w (step2 n1 n2 x c) hw.tail (h.stepR hx hw.head)
theorem PairsI.join (h : PairsI L W n s1 n1 f1 s2 n2 f2) {F : FS} (hFo : Found (cdP W (keepB both (s1,s2))) (joinN L W n n1 n2 both) L F) :
  Shape (L : Int) (if F.rows.length = 0 then -1 else 0) (F.rows.map (renumM F.place (joinN L W n n1 n2 both) L)) (foundFin F (joinF W n f1 f2 both)) ∧
   ∀ w,Word L w → accM (F.rows.map (renumM F.place (joinN L W n n1 n2 both) L)) (foundFin F (joinF W n f1 f2 both)) (if F.rows.length = 0 then -1 else 0) w = joinB both (accM n1 f1 s1 w) (accM n2 f2 s2 w):=by
 have h0:=find_shape (L:=(L : Int)) (h.jshape (both:=both)) (by rw [Int.toNat_natCast]; exact hFo)
 rw [Int.toNat_natCast] at h0
 refine ⟨h0.1,fun w hw=>?_⟩
 rw [h0.2 w hw]
 exact h.jacc w (s1,s2) hw (h.mk' h.h1.s1 h.h1.s2 h.h2.s1 h.h2.s2)
end
def JoinE (both : Bool) (L1 s1 : Int) (n1 : List (List Int)) (f1 : List Bool) (L2 s2 : Int) (n2 : List (List Int)) (f2 : List Bool) (L' s' : Int) (n' : List (List Int)) (f' : List Bool) (r : Int) : Prop:=
 (twoM L1 s1 n1 f1 L2 s2 n2 f2 ≠ 0 ∧ r = twoM L1 s1 n1 f1 L2 s2 n2 f2 ∧ L' = 0 ∧ s' = 0 ∧ n' = [] ∧ f' = []) ∨
 (twoM L1 s1 n1 f1 L2 s2 n2 f2 = 0 ∧ r = 0 ∧ L' = L1 ∧ Canon L1 s' n' f' ∧ ∀ w,Word L1.toNat w → accM n' f' s' w = joinB both (accM n1 f1 s1 w) (accM n2 f2 s2 w))
theorem JoinE.one {both : Bool} {L1 s1 L2 s2 : Int} {n1 n2 : List (List Int)} {f1 f2 : List Bool} {L3 s3 r3 L4 s4 r4 : Int} {n3 n4 : List (List Int)} {f3 f4 : List Bool} (h : JoinE both L1 s1 n1 f1 L2 s2 n2 f2 L3 s3 n3 f3 r3) (k : JoinE both L1 s1 n1 f1 L2 s2 n2 f2 L4 s4 n4 f4 r4) :
  L3 = L4 ∧ s3 = s4 ∧ n3 = n4 ∧ f3 = f4 ∧ r3 = r4:=by
 rcases h with ⟨h0,rfl,rfl,rfl,rfl,rfl⟩ | ⟨h0,rfl,rfl,h1,h2⟩
 ·rcases k with ⟨_,rfl,rfl,rfl,rfl,rfl⟩ | ⟨k0,_⟩
  ·exact ⟨rfl,rfl,rfl,rfl,rfl⟩
  ·exact (h0 k0).elim
 ·rcases k with ⟨k0,_⟩ | ⟨_,rfl,rfl,k1,k2⟩
  ·exact (k0 h0).elim
  ·obtain ⟨a,b,c⟩:=canon_one h1 k1 (fun w hw=>(h2 w hw).trans (k2 w hw).symm)
   exact ⟨rfl,a,b,c,rfl⟩
end Go.Proofs.YthcoppfiahnpoaaGreat
namespace Go.Proofs.YthcoppfiahnpoaaGreat
open Go Go.Shelf
def sortPairs_ren : Go.Shelf.Ren:=⟨fun | 6=>40 | 15=>69 | 14=>68 | 28=>94 | 29=>95 | 20=>86 | 21=>87 | 22=>88 | 23=>89 | 24=>90 | 25=>91 | 26=>92 | 27=>93 | 46=>100 | 47=>101 | 48=>102 | 49=>103 | 50=>104 | 57=>105 | n=>n,fun | 22=>38 | 24=>48 | 25=>79 | 3=>3 | 39=>106 | 0=>0 | 53=>135 | 55=>41 | 4=>4 | 46=>129 | 45=>128 | 50=>125 | 5=>5 | 9=>9 | 66=>139 | 70=>143 | 76=>145 | 77=>146 | n=>n,fun | n=>n⟩
theorem sortPairs : Go.Proofs.SlLaysF0.n6 Tryz.prog sortPairs_ren:={
 mixed:=by kernel_rfl
 f6:=⟨Tryz.f40.name,by decide,Tryz.func40.trans (congrArg some (by kernel_rfl))⟩
 f14:=⟨Tryz.f68.name,by decide,Tryz.func68.trans (congrArg some (by kernel_rfl))⟩
 f15:=Tryz.func69.trans (congrArg some (by kernel_rfl))
 f20:=⟨Tryz.f86.name,by decide,Tryz.func86.trans (congrArg some (by kernel_rfl))⟩
 f21:=⟨Tryz.f87.name,by decide,Tryz.func87.trans (congrArg some (by kernel_rfl))⟩
 f22:=⟨Tryz.f88.name,by decide,Tryz.func88.trans (congrArg some (by kernel_rfl))⟩
 f23:=⟨Tryz.f89.name,by decide,Tryz.func89.trans (congrArg some (by kernel_rfl))⟩
 f24:=⟨Tryz.f90.name,by decide,Tryz.func90.trans (congrArg some (by kernel_rfl))⟩
 f25:=⟨Tryz.f91.name,by decide,Tryz.func91.trans (congrArg some (by kernel_rfl))⟩
 f26:=⟨Tryz.f92.name,by decide,Tryz.func92.trans (congrArg some (by kernel_rfl))⟩
 f27:=⟨Tryz.f93.name,by decide,Tryz.func93.trans (congrArg some (by kernel_rfl))⟩
 f28:=Tryz.func94.trans (congrArg some (by kernel_rfl))
 f29:=Tryz.func95.trans (congrArg some (by kernel_rfl))
 f46:=⟨Tryz.f100.name,by decide,Tryz.func100.trans (congrArg some (by kernel_rfl))⟩
 f47:=Tryz.func101.trans (congrArg some (by kernel_rfl))
 f48:=Tryz.func102.trans (congrArg some (by kernel_rfl))
 f49:=⟨Tryz.f103.name,by decide,Tryz.func103.trans (congrArg some (by kernel_rfl))⟩
 f50:=⟨Tryz.f104.name,by decide,Tryz.func104.trans (congrArg some (by kernel_rfl))⟩
 f57:=⟨Tryz.f105.name,by decide,Tryz.func105.trans (congrArg some (by kernel_rfl))⟩
 t0:=Tryz.underlying0
 a0:=Tryz.isAgg0
 z0:=Tryz.sizeOf0
 v0:=Tryz.zeroValue0
 t3:=Tryz.underlying3
 a3:=Tryz.isAgg3
 z3:=Tryz.sizeOf3
 v3:=Tryz.zeroValue3
 t4:=Tryz.underlying4
 a4:=Tryz.isAgg4
 z4:=Tryz.sizeOf4
 v4:=Tryz.zeroValue4
 t5:=Tryz.underlying5
 a5:=Tryz.isAgg5
 z5:=Tryz.sizeOf5
 v5:=Tryz.zeroValue5
 t9:=Tryz.underlying9
 a9:=Tryz.isAgg9
 z9:=Tryz.sizeOf9
 v9:=Tryz.zeroValue9
 t22:=Tryz.underlying38
 a22:=Tryz.isAgg38
 z22:=Tryz.sizeOf38
 v22:=Tryz.zeroValue38
 t25:=Tryz.underlying79
 a25:=Tryz.isAgg79
 z25:=Tryz.sizeOf79
 v25:=Tryz.zeroValue79
 t39:=Tryz.underlying106
 a39:=Tryz.isAgg106
 z39:=Tryz.sizeOf106
 v39:=Tryz.zeroValue106
 t45:=Tryz.underlying128
 a45:=Tryz.isAgg128
 z45:=Tryz.sizeOf128
 v45:=Tryz.zeroValue128
 t46:=Tryz.underlying129
 a46:=Tryz.isAgg129
 z46:=Tryz.sizeOf129
 v46:=Tryz.zeroValue129
 t50:=Tryz.underlying125
 a50:=Tryz.isAgg125
 z50:=Tryz.sizeOf125
 v50:=Tryz.zeroValue125
 t53:=Tryz.underlying135
 a53:=Tryz.isAgg135
 z53:=Tryz.sizeOf135
 v53:=Tryz.zeroValue135
 t55:=Tryz.underlying41
 a55:=Tryz.isAgg41
 z55:=Tryz.sizeOf41
 v55:=Tryz.zeroValue41
 t66:=Tryz.underlying139
 a66:=Tryz.isAgg139
 z66:=Tryz.sizeOf139
 v66:=Tryz.zeroValue139
 t70:=Tryz.underlying143
 a70:=Tryz.isAgg143
 z70:=Tryz.sizeOf143
 v70:=Tryz.zeroValue143
 t76:=Tryz.underlying145
 a76:=Tryz.isAgg145
 z76:=Tryz.sizeOf145
 v76:=Tryz.zeroValue145
 t77:=Tryz.underlying146
 a77:=Tryz.isAgg146
 z77:=Tryz.sizeOf146
 v77:=Tryz.zeroValue146 }
end Go.Proofs.YthcoppfiahnpoaaGreat
namespace Go.Proofs.YthcoppfiahnpoaaGreat
open Go Sym
open Go.Sort (grow alloc_eq_grow grow_grow putRow putCells mapBlock onCells Holds SWO PermIn SortedIn flatK putRowK HoldsK)
theorem compare_eq (x y : Int) (w : World) : Calls Tryz.prog 71 #[Vi x,Vi y] w fun e w'=>e = .returned (Vi (cmpI x y)) ∧ w' = w:=by
 refine Sym.enter (args:=[Vi x,Vi y]) Tryz.func71 rfl rfl rfl (fun a0 hS0=>?_)
 refine wp_seq (seq_cut [(0,Vi x),(1,Vi y)] (· = w) tab_ok hS0 ?_ (fun a w1 hS hw=>?_))
 ·repeat first|refine zP rfl ?_|refine zK rfl ?_
  exact o_nil ⟨⟨rfl,rfl,trivial⟩,rfl⟩
 subst hw
 refine wp_seq (seq_cut [(0,Vi x),(1,Vi y),(5,.bool false)] (· = w1) tab_ok hS ?_ (fun a w2 hS hw=>?_))
 ·repeat first|refine zP rfl ?_|refine zK rfl ?_
  refine zF rfl (en_isNaN) (isNaN_any x w1) ?_
  rintro e w2 ⟨rfl,rfl⟩
  refine ⟨_,rfl,?_⟩
  repeat first|refine zP rfl ?_|refine zK rfl ?_
  exact o_nil ⟨⟨rfl,rfl,rfl,trivial⟩,rfl⟩
 subst hw
 refine wp_seq (seq_cut [(0,Vi x),(1,Vi y),(5,.bool false),(6,.bool false)] (· = w2) tab_ok hS ?_ (fun a w3 hS hw=>?_))
 ·repeat first|refine zP rfl ?_|refine zK rfl ?_
  refine zF rfl (en_isNaN) (isNaN_any y w2) ?_
  rintro e w2 ⟨rfl,rfl⟩
  refine ⟨_,rfl,?_⟩
  repeat first|refine zP rfl ?_|refine zK rfl ?_
  exact o_nil ⟨⟨rfl,rfl,rfl,rfl,trivial⟩,rfl⟩
 subst hw
 refine wp_seq (wp_seq (seq_cut [(0,Vi x),(1,Vi y),(6,.bool false),(11,.bool false)] (· = w3) tab_ok hS ?_ (fun a w4 hS hw=>?_)))
 ·repeat first|refine zP rfl ?_|refine zK rfl ?_
  exact o_nil ⟨⟨rfl,rfl,rfl,rfl,trivial⟩,rfl⟩
 subst hw
 refine cond hS rfl (fun hT=>by cases hT) (fun hF=>wp_skip ?_)
 refine wp_seq (wp_seq (seq_cut [(0,Vi x),(1,Vi y),(13,.bool false)] (· = w4) tab_ok hS ?_ (fun a w5 hS hw=>?_)))
 ·repeat first|refine zP rfl ?_|refine zK rfl ?_
  exact o_nil ⟨⟨rfl,rfl,rfl,trivial⟩,rfl⟩
 subst hw
 refine cond hS rfl (fun hT=>by cases hT) (fun hF=>wp_skip ?_)
 refine wp_seq (wp_seq (seq_cut [(0,Vi x),(1,Vi y),(16,.bool (decide (x < y)))] (· = w5) tab_ok hS ?_ (fun a w6 hS hw=>?_)))
 ·repeat first|refine zP rfl ?_|refine zK rfl ?_
  refine zC rfl (rfl) ?_
  repeat first|refine zP rfl ?_|refine zK rfl ?_
  exact o_nil ⟨⟨rfl,rfl,rfl,trivial⟩,rfl⟩
 subst hw
 refine cond hS rfl (fun hT=>?_) (fun hF=>wp_skip ?_)
 ·refine wp_seq (seq_cut [(4,Vi (-1))] (· = w6) tab_ok hS ?_ (fun a w7 hS hw=>?_))
  ·repeat first|refine zP rfl ?_|refine zK rfl ?_
   exact o_nil ⟨⟨rfl,trivial⟩,rfl⟩
  subst hw
  refine wp_ret ?_
  repeat (first | refine then_ret ?_ | refine block_ret ?_)
  exact ret1 hS rfl rfl ⟨by rw [cmpI,if_pos (of_decide_eq_true hT)],rfl⟩
 have h1:=of_decide_eq_false hF
 refine wp_seq (wp_seq (seq_cut [(0,Vi x),(1,Vi y),(19,.bool (decide (y < x)))] (· = w6) tab_ok hS ?_ (fun a w7 hS hw=>?_)))
 ·repeat first|refine zP rfl ?_|refine zK rfl ?_
  refine zC rfl (rfl) ?_
  repeat first|refine zP rfl ?_|refine zK rfl ?_
  exact o_nil ⟨⟨rfl,rfl,rfl,trivial⟩,rfl⟩
 subst hw
 refine cond hS rfl (fun hT=>?_) (fun hF=>wp_skip ?_)
 ·refine wp_seq (seq_cut [(4,Vi 1)] (· = w7) tab_ok hS ?_ (fun a w8 hS hw=>?_))
  ·repeat first|refine zP rfl ?_|refine zK rfl ?_
   exact o_nil ⟨⟨rfl,trivial⟩,rfl⟩
  subst hw
  refine wp_ret ?_
  repeat (first | refine then_ret ?_ | refine block_ret ?_)
  exact ret1 hS rfl rfl ⟨by rw [cmpI,if_neg h1,if_pos (of_decide_eq_true hT)],rfl⟩
 refine wp_seq (seq_cut [(4,Vi 0)] (· = w7) tab_ok hS ?_ (fun a w8 hS hw=>?_))
 ·repeat first|refine zP rfl ?_|refine zK rfl ?_
  exact o_nil ⟨⟨rfl,trivial⟩,rfl⟩
 subst hw
 refine wp_ret ?_
 repeat (first | refine then_ret ?_ | refine block_ret ?_)
 exact ret1 hS rfl rfl ⟨by rw [cmpI,if_neg h1,if_neg (of_decide_eq_false hF)],rfl⟩
theorem or_eq (v : Value) (l : List Int) (w : World) (hl : Sl w v l PInt) : Calls Tryz.prog 70 #[v] w fun e w'=>e = .returned (Vi (orL l)) ∧ w' = w:=by
 refine Sym.enter (args:=[v]) Tryz.func70 rfl rfl rfl (fun a0 hS0=>?_)
 obtain ⟨al,bl,ol,cl,rfl,h1,h2,h3,h4⟩:=hl
 refine wp_seq (seq_cut [(0,.slice al l.length cl)] (· = w) tab_ok hS0 ?_ (fun a w1 hS hw=>?_))
 ·repeat first|refine zP rfl ?_|refine zK rfl ?_
  exact o_nil ⟨⟨rfl,trivial⟩,rfl⟩
 subst hw
 refine wp_seq (seq_cut [(0,.slice al l.length cl),(3,Vi 0)] (· = w1) tab_ok hS ?_ (fun a w2 hS hw=>?_))
 ·repeat first|refine zP rfl ?_|refine zK rfl ?_
  exact o_nil ⟨⟨rfl,rfl,trivial⟩,rfl⟩
 subst hw
 refine wp_seq (wp_seq (seq_cut [(3,Vi 0),(6,.slice al l.length cl),(7,Vi l.length),(8,Vi (0 : Nat))] (· = w2) tab_ok hS ?_ (fun a w3 hS hw=>?_)))
 ·repeat first|refine zP rfl ?_|refine zK rfl ?_
  exact o_nil ⟨⟨rfl,rfl,rfl,rfl,trivial⟩,rfl⟩
 subst hw
 refine wp_block (loop0 hS (fun γ E w'=>∃ i : Nat,i ≤ l.length ∧ γ = l.length - i ∧ E = [(3,Vi 0),(6,.slice al l.length cl),(7,Vi l.length),(8,Vi i)] ∧ w' = w3 ∧ ∀ j (h : j < l.length),j < i → l[j] = 0) l.length ⟨0,by omega,by omega,rfl,rfl,fun j _ hj=>by omega⟩ ?_)
 clear hS
 rintro γ E w4 a ⟨i,hi,rfl,rfl,rfl,hz⟩ hS
 refine wp_seq (seq_cut [(3,Vi 0),(6,.slice al l.length cl),(7,Vi l.length),(8,Vi i),(9,.bool (decide (i < l.length)))] (· = w4) tab_ok hS ?_ (fun a w5 hS hw=>?_))
 ·repeat first|refine zP rfl ?_|refine zK rfl ?_
  refine zC rfl (lt_nat _ _) ?_
  repeat first|refine zP rfl ?_|refine zK rfl ?_
  exact o_nil ⟨⟨rfl,rfl,rfl,rfl,rfl,trivial⟩,rfl⟩
 subst hw
 refine wp_seq (cond hS rfl (fun hT=>wp_skip ?_) (fun hF=>?_))
 rotate_left
 ·have hii : i = l.length:=by have:=of_decide_eq_false hF; omega
  refine wp_exit ?_
  repeat (first | refine then_exit ?_ | refine block_exit ?_ | refine block_other rfl ?_)
  refine wp_seq (seq_cut [(2,Vi 0)] (· = w5) tab_ok hS ?_ (fun a w6 hS hw=>?_))
  ·repeat first|refine zP rfl ?_|refine zK rfl ?_
   exact o_nil ⟨⟨rfl,trivial⟩,rfl⟩
  subst hw
  refine wp_ret ?_
  repeat (first | refine then_ret ?_ | refine block_ret ?_)
  exact ret1 hS rfl rfl ⟨by rw [orL_drop i l hz,List.drop_eq_nil_of_le (by omega)]; rfl,rfl⟩
 have hii : i < l.length:=of_decide_eq_true hT
 obtain rfl:=h1 (by omega)
 obtain ⟨y,hy,rfl,-⟩:=h4 i hii
 have hor : orL l = if l[i] ≠ 0 then l[i] else orL (l.drop (i + 1)):=by
  rw [orL_drop i l hz,List.drop_eq_getElem_cons hii]; rfl
 refine wp_seq (wp_block (wp_seq (seq_cut [(3,Vi 0),(6,.slice (some ⟨bl,ol,none⟩) l.length cl),(7,Vi l.length),(8,Vi i),(5,Vi l[i])] (· = w5) tab_ok hS ?_ (fun a w6 hS hw=>?_))))
 ·repeat first|refine zP rfl ?_|refine zK rfl ?_
  refine zI rfl (rfl) (hii) ?_
  refine zL rfl (hy) ?_
  repeat first|refine zP rfl ?_|refine zK rfl ?_
  exact o_nil ⟨⟨rfl,rfl,rfl,rfl,rfl,trivial⟩,rfl⟩
 subst hw
 refine wp_seq (seq_cut [(3,Vi 0),(6,.slice (some ⟨bl,ol,none⟩) l.length cl),(7,Vi l.length),(8,Vi i),(5,Vi l[i]),(14,.bool (decide (l[i] ≠ 0)))] (· = w6) tab_ok hS ?_ (fun a w7 hS hw=>?_))
 ·repeat first|refine zP rfl ?_|refine zK rfl ?_
  refine zC rfl (rfl) ?_
  repeat first|refine zP rfl ?_|refine zK rfl ?_
  exact o_nil ⟨⟨rfl,rfl,rfl,rfl,rfl,rfl,trivial⟩,rfl⟩
 subst hw
 refine cond hS rfl (fun hT2=>?_) (fun hF2=>wp_skip ?_)
 ·refine wp_seq (seq_cut [(2,Vi l[i])] (· = w7) tab_ok hS ?_ (fun a w8 hS hw=>?_))
  ·repeat first|refine zP rfl ?_|refine zK rfl ?_
   exact o_nil ⟨⟨rfl,trivial⟩,rfl⟩
  subst hw
  refine wp_ret ?_
  repeat (first | refine then_ret ?_ | refine block_ret ?_)
  exact ret1 hS rfl rfl ⟨by rw [hor,if_pos (of_decide_eq_true hT2)],rfl⟩
 have h0:=Decidable.not_not.1 (of_decide_eq_false hF2)
 refine block_normal ?_
 refine seq_cut [(3,Vi 0),(6,.slice (some ⟨bl,ol,none⟩) l.length cl),(7,Vi l.length),(8,Vi (i + 1 : Nat))] (· = w7) tab_ok hS ?_ (fun a w8 hS hw=>?_)
 ·repeat first|refine zP rfl ?_|refine zK rfl ?_
  refine zN rfl (i64_add i 1 (by omega)) ?_
  repeat first|refine zP rfl ?_|refine zK rfl ?_
  exact o_nil ⟨⟨rfl,rfl,rfl,rfl,trivial⟩,rfl⟩
 subst hw
 refine ⟨l.length - (i + 1),_,by omega,⟨i + 1,by omega,rfl,rfl,rfl,fun j hj hji=>?_⟩,hS⟩
 rcases Nat.lt_or_ge j i with h | h
 ·exact hz j hj h
 ·obtain rfl : j = i:=by omega
  exact h0
set_option maxHeartbeats 2000000 in
theorem aorder_grow (p q c d : Int) (w : World) : Calls Tryz.prog 41 #[.agg #[Vi p,Vi q],.agg #[Vi c,Vi d]] w fun e w'=>e = .returned (Vi (ordP p q c d)) ∧ ∃ k os',w' = grow (w.drewN k) os':=by
 refine Sym.enter (args:=[.agg #[Vi p,Vi q],.agg #[Vi c,Vi d]]) Tryz.func41 rfl rfl rfl (fun a0 hS0=>?_)
 obtain ⟨B,hBB⟩ : ∃ B,B = w.heap.size:=⟨_,rfl⟩
 refine wp_seq (seq_cut [(2,Vp B),(3,Vp (B + 1))] (· = (w.alloc (.cells #[Vi p,Vi q] 48)).alloc (.cells #[Vi c,Vi d] 48)) tab_ok hS0 ?_ (fun a w1 hS hw=>?_))
 ·subst hBB
  refine zB rfl ?_
  refine zB rfl ?_
  rw [alloc_size]
  repeat first|refine zP rfl ?_|refine zK rfl ?_
  exact o_nil ⟨⟨rfl,rfl,trivial⟩,rfl⟩
 obtain ⟨-,hx,hz⟩:=pair_boxes hw
 rw [← hBB] at hx hz
 refine wp_seq (any_cut 13 [(4,Vi (ordP p q c d))] (fun w'=>∃ k os',w' = grow (w1.drewN k) os') mixed hS ?_ (fun a w2 hS hw2=>?_))
 ·have hy : RowKit.Below w1.drew.heap.size w1.drew w1.drew:=RowKit.Below.refl _ _
  refine yT 0 tab_ok rfl (by kernel_rfl) hy rfl (rfl) ?_
  refine yL 1 tab_ok rfl (by kernel_rfl) hy rfl rfl (hx.c0) ?_
  refine yT 2 tab_ok rfl (by kernel_rfl) hy rfl (rfl) ?_
  refine yL 3 tab_ok rfl (by kernel_rfl) hy rfl rfl (hz.c0) ?_
  refine yT 5 tab_ok rfl (by kernel_rfl) hy rfl (rfl) ?_
  refine yL 6 tab_ok rfl (by kernel_rfl) hy rfl rfl (hx.c1) ?_
  refine yT 7 tab_ok rfl (by kernel_rfl) hy rfl (rfl) ?_
  refine yL 8 tab_ok rfl (by kernel_rfl) hy rfl rfl (hz.c1) ?_
  refine y_one 4 (by kernel_rfl) (y_op 4 tab_ok rfl rfl rfl rfl ?_)
  refine And.intro en_Compare ((compare_eq p c _).mono ?_)
  rintro e w2 ⟨rfl,rfl⟩
  refine ⟨_,rfl,?_⟩
  refine And.intro (.inr hy) ?_
  refine y_one 9 (by kernel_rfl) (y_op 9 tab_ok rfl rfl rfl rfl ?_)
  refine And.intro en_Compare ((compare_eq q d _).mono ?_)
  rintro e w3 ⟨rfl,rfl⟩
  refine ⟨_,rfl,?_⟩
  refine And.intro (.inr hy) ?_
  refine y_one 10 (by kernel_rfl) (y_op 10 tab_ok rfl rfl rfl rfl ?_)
  refine Exists.intro [(0,Vi (cmpI p c)),(1,Vi (cmpI q d))] (Exists.intro _ (And.intro (And.intro rfl rfl) (And.intro (by decide) (And.intro (fillI2 ..) ?_))))
  have hy3:=hy.alloc hy.size (.cells #[Vi (cmpI p c),Vi (cmpI q d)] 3)
  refine And.intro (.inr hy3) ?_
  have hs : Sl _ (Vs w1.drew.heap.size 2 2) [cmpI p c,cmpI q d] PInt:=sl_lit w1.drew [cmpI p c,cmpI q d] 2 rfl (by
   intro x hx
   simp only [List.mem_cons,List.not_mem_nil,or_false] at hx
   rcases hx with rfl | rfl <;> exact cmpI_in _ _) (by simp)
  refine y_one 11 (by kernel_rfl) (y_op 11 tab_ok rfl rfl rfl rfl ?_)
  refine And.intro en_Or ((or_eq _ _ _ hs).mono ?_)
  rintro e w4 ⟨rfl,rfl⟩
  refine ⟨_,rfl,?_⟩
  refine And.intro (.inr hy3) ?_
  refine yT 12 tab_ok rfl (by kernel_rfl) hy3 rfl (rfl) ?_
  exact y_end (by kernel_rfl) ⟨rfl,trivial⟩ ⟨1,_,by rw [alloc_eq_grow]; rfl⟩
 obtain ⟨k,os',hw2⟩:=hw2
 refine wp_ret ?_
 repeat (first | refine then_ret ?_ | refine block_ret ?_)
 exact ret1 hS rfl rfl ⟨rfl,k,_,by rw [hw2,hw,alloc_eq_grow,alloc_eq_grow,grow_grow]; exact grow_grow (w.drewN k) _ os'⟩
theorem en_SortFunc : enters Tryz.prog 40 = true:=by kernel_rfl
def encP (x : Int × Int) : List Value:=[Vi x.1,Vi x.2]
theorem flat_pairs (l : List (Int × Int)) : (flatK encP 2 l.toArray).toList = pairCells l:=by
 refine List.ext_getElem (by simp [flatK,pairCells_len]) fun t h1 h2=>?_
 have ht : t < l.length * 2:=by rw [pairCells_len] at h2; exact h2
 have hi : t / 2 < l.length:=by omega
 obtain ⟨g1,g2⟩:=pairCells_get l (t / 2) hi
 have e : (flatK encP 2 l.toArray).toList[t] = (encP l[t / 2])[t % 2]!:=by
  simp [flatK,hi]
 rw [e]
 rcases (show t % 2 = 0 ∨ t % 2 = 1 by omega) with h | h
 ·rw [h]
  rw [show t / 2 * 2 = t by omega] at g1
  exact (List.getElem?_eq_some_iff.1 g1).2.symm
 ·rw [h]
  rw [show t / 2 * 2 + 1 = t by omega] at g2
  exact (List.getElem?_eq_some_iff.1 g2).2.symm
theorem ordP_lt (x y : Int × Int) : ltOf (fun x y : Int × Int=>ordP x.1 x.2 y.1 y.2) x y = true ↔ befP x y:=by
 have:=ordP_ge x.1 x.2 y.1 y.2
 unfold ltOf befP
 rw [decide_eq_true_eq]
 dsimp only
 omega
theorem swoP : SWO (ltOf fun x y : Int × Int=>ordP x.1 x.2 y.1 y.2) where
 irrefl x:=Bool.eq_false_iff.2 fun h=>((ordP_lt x x).1 h).irrefl
 trans x y z h1 h2:=(ordP_lt x z).2 (((ordP_lt x y).1 h1).trans ((ordP_lt y z).1 h2))
 ntrans x y z h1 h2:=Bool.eq_false_iff.2 fun h=>by
  have h1 : ¬ befP x y:=fun k=>Bool.eq_false_iff.1 h1 ((ordP_lt x y).2 k)
  have h2 : ¬ befP y z:=fun k=>Bool.eq_false_iff.1 h2 ((ordP_lt y z).2 k)
  have h3:=(ordP_lt x z).1 h
  unfold befP at h1 h2 h3
  omega
theorem cmp_lays (blk off size : Nat) (w : World) : CmpLays Tryz.prog 41 #[] encP 2 (fun x y=>ordP x.1 x.2 y.1 y.2) blk off size w:=
 fun _ _ _ _ x y=>aorder_grow x.1 x.2 y.1 y.2 _
theorem pair_run : ∃ e,e = (⟨48,.struct [(0,3),(1,3)],2,16,.agg #[Vi 0,Vi 0]⟩ : TI) ∧ Tab.get tab 48 = some e:=⟨_,rfl,rfl⟩
theorem agg_pair (w : World) : (isAgg 48).run Tryz.prog w = .ok true w:=by
 obtain ⟨e,he,hg⟩:=pair_run
 obtain ⟨h1,hok⟩:=Tab.get_ok tab_ok hg
 have:=isAgg_run hok w
 rw [he] at this
 exact this
theorem size_pair (w : World) : (Go.sizeOf 48).run Tryz.prog w = .ok 2 w:=by
 obtain ⟨e,he,hg⟩:=pair_run
 obtain ⟨h1,hok⟩:=Tab.get_ok tab_ok hg
 have:=sizeOf_run hok w
 rw [he] at this
 exact this
theorem own_sorted {base e g n c m : Nat} {w : World} {xs : List Value} (hown : w.ownsRow base e 2 (Vs g n c) n xs) {F : Array Value} (hF : F.size = n * 2) (os : Array Obj) :
  w.grownBy (grow (putRow id (Go.Sort.ahead w m) g 0 F) os) (some g) ∧ (grow (putRow id (Go.Sort.ahead w m) g 0 F) os).ownsRow base e 2 (Vs g n c) n F.toList:=by
 have hsz : (putRow id (Go.Sort.ahead w m) g 0 F).heap.size = w.heap.size:=by simp [putRow,mapBlock,Go.Sort.ahead]
 rcases hown.2 with ⟨h',_⟩ | ⟨g',cap',cur,h',hb,hg,hnc,hcm,hcs,htake⟩
 ·cases h'
 ·simp only [Value.slice.injEq,Option.some.injEq,Addr.mk.injEq,and_true,true_and] at h'
  obtain ⟨rfl,rfl⟩:=h'
  have hlt : g < w.heap.size:=(Array.getElem?_eq_some_iff.1 hg).1
  refine ⟨⟨rfl,rfl,rfl,by simp [grow,putRow,mapBlock,Go.Sort.ahead],fun k hk hne=>?_⟩,by rw [Array.length_toList,hF],.inr ⟨g,c,putCells id 0 F cur,rfl,hb,?_,hnc,hcm,by simp [putCells,hcs],?_⟩⟩
  ·have hne' : ¬ g = k:=fun e=>hne (by rw [e])
   show ((w.heap.modify g (onCells (putCells id 0 F))) ++ os)[k]? = _
   rw [Array.getElem?_append_left (by simpa using hk),Array.getElem?_modify,if_neg hne']
  ·show ((w.heap.modify g (onCells (putCells id 0 F))) ++ os)[g]? = _
   rw [Array.getElem?_append_left (by simpa using hlt),Array.getElem?_modify,if_pos rfl,hg]
   rfl
  ·have hle : n * 2 ≤ cur.size:=by rw [hcs]; exact Nat.mul_le_mul_right 2 hnc
   refine List.ext_getElem (by simp [putCells,hF]; omega) fun j h1 h2=>?_
   have hj : j < F.size:=by simpa using h2
   simp [putCells,hj]
theorem sort_pairs {base i : Nat} {w0 w : World} {l : List Ow} {v : Value} {xs : List (Int × Int)} (h : Hold base w0 w l) (hi : l[i]? = some (oP v xs)) (hlen : xs.length ≤ 1000000000) :
  Calls Tryz.prog 40 #[v,.func (.func 41) #[] #[]] w fun e w'=>e = .returned (.tuple #[]) ∧ ∃ ys,ys.Perm xs ∧ ys.Pairwise (fun x y=>¬ befP y x) ∧ Hold base w0 w' (l.set i (oP v ys)):=by
 have hown:=h.r.1 i _ hi
 rcases Nat.eq_zero_or_pos xs.length with h0 | h0
 ·obtain rfl:=List.length_eq_zero_iff.1 h0
  obtain ⟨g,c,rfl,-⟩:=h.r.any hi
  refine (AnyF.slices_SortFunc_none sortPairs g c _ w).mono ?_
  rintro e w' ⟨rfl,rfl⟩
  refine ⟨rfl,[],.refl _,.nil,?_⟩
  obtain ⟨hil,hie⟩:=List.getElem?_eq_some_iff.1 hi
  refine h.cast ?_
  rw [← hie]
  exact (List.set_getElem_self hil).symm
 ·obtain ⟨g,c,rfl,hc,-⟩:=h.r.nilOr hi h0
  have eg : ∀ args w,(callFunc 41 args).run Tryz.prog w = .ok (.enter 41 args) w:=enters_of Tryz.func41 (by kernel_rfl) rfl
  have hsz : xs.toArray.size = xs.length:=by simp
  have hlt:=(hown.lt g rfl).2
  have hH : HoldsK encP 2 w g 0 xs.toArray:=fun j hj=>by
   have hj' : j < xs.length * 2:=by simpa [hsz] using hj
   rw [Nat.zero_add]
   refine ⟨?_,hown.frozenAt j⟩
   rw [World.ownsRow.cellAt hown j (by simpa using hj')]
   show (pairCells xs)[j]? = _
   rw [← flat_pairs]
   have hj2 : j < (flatK encP 2 xs.toArray).size:=hj
   rw [getElem!_pos (flatK encP 2 xs.toArray) j hj2,Array.getElem?_toList,Array.getElem?_eq_getElem hj2]
   rfl
  have hcon:=AnyQ.slices_SortFunc sortPairs 2 agg_pair size_pair encP (fun _=>rfl) (fun x v hv=>by simp [encP] at hv; rcases hv with rfl | rfl <;> rfl) (fun x y=>ordP x.1 x.2 y.1 y.2) swoP 41 #[] g 0 c xs.toArray w eg (cmp_lays g 0 xs.toArray.size w) hH hlt (by omega)
  rw [hsz] at hcon
  refine (show Calls Tryz.prog 40 #[Vs g xs.length c,.func (.func 41) #[] #[]] w _ from hcon).mono ?_
  rintro e w' ⟨rfl,d',n,os,hp,hs,rfl⟩
  obtain ⟨p1,-,p3⟩:=hp
  have hds : d'.size = xs.length:=by rw [p1,hsz]
  have hperm : d'.toList.Perm xs:=by
   have e1 : d'.extract 0 xs.length = d':=by rw [← hds]; simp
   have e2 : xs.toArray.extract 0 xs.length = xs.toArray:=by rw [← hsz]; simp
   rw [e1,e2] at p3
   simpa using p3
  obtain ⟨g1,g2⟩:=own_sorted (m:=n) (F:=flatK encP 2 d') hown (by simp [flatK,hds]) os
  have hfl : (flatK encP 2 d').toList = pairCells d'.toList:=by rw [← flat_pairs]
  rw [hfl] at g2
  refine ⟨rfl,d'.toList,hperm,?_,?_⟩
  ·refine List.pairwise_iff_getElem.2 fun a b ha hb hab hbef=>?_
   have ha' : a < d'.size:=by simpa using ha
   have hb' : b < d'.size:=by simpa using hb
   have:=hs a b (Nat.zero_le _) hab (by omega)
   rw [getElem!_pos d' a ha',getElem!_pos d' b hb'] at this
   exact Bool.eq_false_iff.1 this ((ordP_lt _ _).2 (by simpa using hbef))
  ·have hl2 : d'.toList.length = xs.length:=by simp [hds]
   have e : (⟨Vs g xs.length c,48,2,xs.length,pairCells d'.toList⟩ : Ow) = oP (Vs g xs.length c) d'.toList:=by rw [oP,hl2]
   rw [← e]
   exact ⟨h.r.turn hi g1 g2 (.inl rfl),h.r.low hi h.b h.s g1,Nat.le_trans h.s g1.size⟩
end Go.Proofs.YthcoppfiahnpoaaGreat
namespace Go.Proofs.YthcoppfiahnpoaaGreat
open Go Sym
set_option maxHeartbeats 1000000 in
theorem relate1_any {b1 b2 : Nat} (L1 s1 L2 s2 p q l : Int) (vn1 ve1 vn2 ve2 : Value) (n1 n2 : List (List Int)) (w : World) (hx : Box w b1 L1 s1 vn1 ve1) (hz : Box w b2 L2 s2 vn2 ve2) (hn1 : Sl w vn1 n1 PRow) (hn2 : Sl w vn2 n2 PRow) (h1 : p < n1.length) (h2 : q < n2.length) (h3 : 0 ≤ p → 0 ≤ l ∧ l < (n1.getD p.toNat []).length) (h4 : 0 ≤ q → 0 ≤ l ∧ l < (n2.getD q.toNat []).length) :
  Calls Tryz.prog 36 #[.agg #[Vi p,Vi q],Vi l,Vp b1,Vp b2] w fun e w'=>e = .returned (.agg #[Vi (stepM n1 p l),Vi (stepM n2 q l)]) ∧ RowKit.Below w.heap.size w w':=by
 refine Sym.enter (args:=[.agg #[Vi p,Vi q],Vi l,Vp b1,Vp b2]) Tryz.func36 rfl rfl rfl (fun a0 hS0=>?_)
 obtain ⟨B,hBB⟩ : ∃ B,B = w.heap.size:=⟨_,rfl⟩
 refine wp_seq (seq_cut [(1,Vi l),(2,Vp b1),(3,Vp b2),(4,Vp B),(6,Vp (B + 1))] (· = (w.alloc (.cells #[Vi p,Vi q] 48)).alloc (.cells #[Vi 0,Vi 0] 48)) tab_ok hS0 ?_ (fun a wc hS hw=>?_))
 ·subst hBB
  refine zB rfl ?_
  repeat first|refine zP rfl ?_|refine zK rfl ?_
  refine zB rfl ?_
  rw [alloc_size]
  repeat first|refine zP rfl ?_|refine zK rfl ?_
  exact o_nil ⟨⟨rfl,rfl,rfl,rfl,rfl,trivial⟩,rfl⟩
 obtain ⟨hB,hp,-⟩:=pair_boxes hw
 have ho : OwnB wc (w.heap.size + 1) 48 [Vi 0,Vi 0]:=by
  have:=OwnB.new (w.alloc (.cells #[Vi p,Vi q] 48)) [Vi 0,Vi 0] 48
  rw [alloc_size] at this
  rw [hw]; exact this
 rw [← hBB] at hp ho
 clear hw
 replace hx:=hx.keep hB
 replace hz:=hz.keep hB
 replace hn1:=hn1.keep hB (fun _ _ h=>PRow.keep hB h)
 replace hn2:=hn2.keep hB (fun _ _ h=>PRow.keep hB h)
 refine wp_seq (seq_cut [(6,Vp (B + 1))] (fun w'=>OwnB w' (B + 1) 48 [Vi (stepM n1 p l),Vi (stepM n2 q l)] ∧ RowKit.Below w.heap.size w w') tab_ok hS ?_ (fun a w2 hS hw=>?_))
 ·refine zA ([Vi L1,Vi s1,vn1,ve1]) rfl rfl (hx.cells) ?_
  refine zA ([Vi L2,Vi s2,vn2,ve2]) rfl rfl (hz.cells) ?_
  refine zA ([Vi p,Vi q]) rfl rfl (hp.cells) ?_
  repeat first|refine zP rfl ?_|refine zK rfl ?_
  refine zF rfl (en_afollowBoth) (afollowBoth_any L1 s1 L2 s2 p q l vn1 ve1 vn2 ve2 n1 n2 wc hn1 hn2 h1 h2 h3 h4) ?_
  rintro e w3 ⟨rfl,k1⟩
  refine ⟨_,rfl,?_⟩
  have ho2:=ho.keep k1 ho.lt
  obtain ⟨h5,h6⟩:=put_pair ho2 (below_trans hB k1) (by omega) (Vi (stepM n1 p l)) (Vi (stepM n2 q l))
  refine o_step0 rfl rfl (And.intro rfl (And.intro rfl (And.intro (own_cells2 ho2) ?_)))
  exact o_nil ⟨⟨rfl,trivial⟩,h5,h6⟩
 obtain ⟨h5,h6⟩:=hw
 refine wp_ret ?_
 repeat (first | refine then_ret ?_ | refine block_ret ?_)
 exact retc1 tab_ok hS rfl rfl rfl rfl (o:=0) (vs:=[Vi (stepM n1 p l),Vi (stepM n2 q l)]) ⟨h5.cell (i:=0) rfl,h5.cell (i:=1) rfl,trivial⟩ rfl ⟨rfl,h6⟩
theorem shape_row {L s : Int} {nn : List (List Int)} {ff : List Bool} {x : Int} {c : Nat} (hs : Shape L s nn ff) (hx2 : x < nn.length) (hc : (c : Int) < L) : 0 ≤ x → (0 : Int) ≤ (c : Int) ∧ ((c : Int) < (nn.getD x.toNat []).length):=fun h0=>by
 obtain ⟨y,rfl⟩ : ∃ y : Nat,x = y:=⟨x.toNat,by omega⟩
 have hy : y < nn.length:=by omega
 obtain ⟨g1,g2⟩:=hs.rows y hy
 have e1 : nn.getD y [] = nn[y]:=by simp [List.getD_eq_getElem?_getD,hy]
 rw [Int.toNat_natCast,e1]
 omega
theorem slp_nil (w : World) : SlP w (.slice none 0 0) []:=⟨none,0,0,0,rfl,by simp,by simp,by omega,fun i hi=>by simp at hi⟩
set_option maxHeartbeats 4000000 in
theorem aRelate_c : RelateC 15:=fun L1 s1 L2 s2 vn1 ve1 vn2 ve2 n1 n2 f1 f2 w hm hm2 hl1 hl2=>by
 refine Sym.enter (args:=[.agg #[Vi L1,Vi s1,vn1,ve1],.agg #[Vi L2,Vi s2,vn2,ve2]]) Tryz.func15 rfl rfl rfl (fun a0 hS0=>?_)
 obtain ⟨B,hBB⟩ : ∃ B,B = w.heap.size:=⟨_,rfl⟩
 refine wp_seq (seq_cut [(2,Vp B),(3,Vp (B + 1))] (· = (w.alloc (.cells #[Vi L1,Vi s1,vn1,ve1] 25)).alloc (.cells #[Vi L2,Vi s2,vn2,ve2] 25)) tab_ok hS0 ?_ (fun a wc hS hw=>?_))
 ·subst hBB
  refine zB rfl ?_
  refine zB rfl ?_
  rw [alloc_size]
  repeat first|refine zP rfl ?_|refine zK rfl ?_
  exact o_nil ⟨⟨rfl,rfl,trivial⟩,rfl⟩
 obtain ⟨hB,hx,hz⟩:=box_two hw
 rw [← hBB] at hx hz
 clear hw
 replace hm:=hm.keep hB
 replace hm2:=hm2.keep hB
 obtain ⟨z,hz'⟩ : ∃ z,z = twoM L1 s1 n1 f1 L2 s2 n2 f2:=⟨_,rfl⟩
 refine wp_seq (wp_seq (seq_cut [(2,Vp B),(3,Vp (B + 1)),(6,Vi z)] (fun w'=>RowKit.Below wc.heap.size wc w') tab_ok hS ?_ (fun a w2 hS hw=>?_)))
 ·refine zA ([Vi L1,Vi s1,vn1,ve1]) rfl rfl (hx.cells) ?_
  refine zA ([Vi L2,Vi s2,vn2,ve2]) rfl rfl (hz.cells) ?_
  refine zF rfl (en_afit) (afit_any L1 s1 L2 s2 vn1 ve1 vn2 ve2 n1 n2 f1 f2 wc hm hm2) ?_
  rintro e w1 ⟨rfl,h1⟩
  refine ⟨_,rfl,?_⟩
  subst hz'
  repeat first|refine zP rfl ?_|refine zK rfl ?_
  exact o_nil ⟨⟨rfl,rfl,rfl,trivial⟩,h1⟩
 replace hB:=below_trans hB hw
 replace hx:=hx.keep hw
 replace hz:=hz.keep hw
 replace hm:=hm.keep hw
 replace hm2:=hm2.keep hw
 clear hw
 refine wp_seq (seq_cut [(2,Vp B),(3,Vp (B + 1)),(6,Vi z),(15,.bool (decide (z ≠ 0)))] (· = w2) tab_ok hS ?_ (fun a w3 hS hw=>?_))
 ·repeat first|refine zP rfl ?_|refine zK rfl ?_
  refine zC rfl (rfl) ?_
  repeat first|refine zP rfl ?_|refine zK rfl ?_
  exact o_nil ⟨⟨rfl,rfl,rfl,rfl,trivial⟩,rfl⟩
 subst hw
 refine cond hS rfl (fun hT=>?_) (fun hF=>wp_skip ?_)
 ·refine wp_seq (seq_cut [(4,.slice none 0 0),(5,Vi z)] (· = w3) tab_ok hS ?_ (fun a w4 hS hw=>?_))
  ·repeat first|refine zP rfl ?_|refine zK rfl ?_
   exact o_nil ⟨⟨rfl,rfl,trivial⟩,rfl⟩
  subst hw
  refine wp_ret ?_
  repeat (first | refine then_ret ?_ | refine block_ret ?_)
  exact ret2 hS rfl rfl rfl ⟨_,[],z,rfl,slp_nil _,hB,.inl ⟨by rw [← hz']; exact of_decide_eq_true hT,hz',rfl⟩⟩
 have hz0 : z = 0:=Decidable.not_not.1 (of_decide_eq_false hF)
 have htw : twoM L1 s1 n1 f1 L2 s2 n2 f2 = 0:=hz'.symm.trans hz0
 obtain ⟨hv1,hv2,rfl⟩:=two_zero htw
 obtain ⟨hs1,hL1,hn1⟩:=shape_of_valid hv1
 obtain ⟨hs2,hL2,hn2⟩:=shape_of_valid hv2
 refine wp_seq (wp_seq (seq_cutx (α:=Bool) (fun b=>[(2,Vp B),(3,Vp (B + 1)),(20,.bool (!b))]) (fun b w'=>(b = true ↔ Alike L1.toNat n1 f1 s1 n2 f2 s2) ∧ RowKit.Below w3.heap.size w3 w') tab_ok hS ?_ (fun b a w4 hS hw=>?_)))
 ·refine zA ([Vi L1,Vi s1,vn1,ve1]) rfl rfl (hx.cells) ?_
  refine zA ([Vi L1,Vi s2,vn2,ve2]) rfl rfl (hz.cells) ?_
  refine zF rfl (en_asame) (asame_any L1 s1 s2 vn1 ve1 vn2 ve2 n1 n2 f1 f2 w3 hm hm2 hs1 hs2 hL1 hn1 hn2) ?_
  rintro e w1 ⟨b,rfl,hb,h1⟩
  refine ⟨_,rfl,?_⟩
  repeat first|refine zP rfl ?_|refine zK rfl ?_
  exact o_nil ⟨b,⟨rfl,rfl,rfl,trivial⟩,hb,h1⟩
 obtain ⟨hb,hw⟩:=hw
 replace hB:=below_trans hB hw
 replace hx:=hx.keep hw
 replace hz:=hz.keep hw
 replace hm:=hm.keep hw
 replace hm2:=hm2.keep hw
 clear hw
 refine cond hS rfl (fun hT=>?_) (fun hF2=>wp_skip ?_)
 ·refine wp_seq (seq_cut [(4,.slice none 0 0),(5,Vi 8)] (· = w4) tab_ok hS ?_ (fun a w5 hS hw=>?_))
  ·repeat first|refine zP rfl ?_|refine zK rfl ?_
   exact o_nil ⟨⟨rfl,rfl,trivial⟩,rfl⟩
  subst hw
  have hbf : b = false:=by simpa using hT
  refine wp_ret ?_
  repeat (first | refine then_ret ?_ | refine block_ret ?_)
  exact ret2 hS rfl rfl rfl ⟨_,[],8,rfl,slp_nil _,hB,.inr (.inl ⟨htw,fun h=>(by rw [hb.2 h] at hbf; cases hbf),rfl,rfl⟩)⟩
 have hal : Alike L1.toNat n1 f1 s1 n2 f2 s2:=hb.1 (by simpa using hF2)
 obtain ⟨Ln,rfl⟩ : ∃ n : Nat,L1 = n:=⟨L1.toNat,by have:=hs1.L0; omega⟩
 rw [Int.toNat_natCast] at hal
 obtain ⟨W,hW⟩ : ∃ W,W = n2.length + 1:=⟨_,rfl⟩
 obtain ⟨n,hn⟩ : ∃ n,n = (n1.length + 1) * W:=⟨_,rfl⟩
 have hPI : PairsI Ln W n s1 n1 f1 s2 n2 f2:=⟨hs1,hs2,hW,hn,by omega,by omega⟩
 have hnle : n ≤ 101 * 101:=by rw [hn]; exact Nat.mul_le_mul (by omega) (by omega)
 have hs : inR W n (s1,s2):=hPI.mk' hs1.s1 hs1.s2 hs2.s1 hs2.s2
 refine wp_seq (seq_cutx (α:=Nat) (fun fb=>[(2,Vp B),(3,Vp (B + 1)),(7,Vp fb)]) (fun fb w'=>FindP w4.heap.size w4 w' fb W n (FS.none n) []) tab_ok hS ?_ (fun fb a w5 hS h=>?_))
 ·refine zF rfl (en_anowhere) (anowhere_any w4) ?_
  rintro e w5 ⟨rfl,k1⟩
  refine ⟨_,rfl,?_⟩
  refine zF rfl (en_newFinderP) (newFinderP_any ((Hold.start w4).below k1) W n) ?_
  rintro e w6 ⟨fb,rfl,k2⟩
  refine ⟨_,rfl,?_⟩
  repeat first|refine zP rfl ?_|refine zK rfl ?_
  exact o_nil ⟨fb,⟨rfl,rfl,rfl,trivial⟩,k2⟩
 have K:=fun w' (h : RowKit.Below w4.heap.size w4 w')=>And.intro (hx.keep h) (And.intro (hz.keep h) (And.intro (hm.keep h) (hm2.keep h)))
 refine wp_seq (seq_cut [(2,Vp B),(3,Vp (B + 1)),(7,Vp fb),(8,.func (.func 36) #[] #[Vp B,Vp (B + 1)])] (· = w5) tab_ok hS ?_ (fun a w6 hS hw=>?_))
 ·repeat first|refine zP rfl ?_|refine zK rfl ?_
  exact o_nil ⟨⟨rfl,rfl,rfl,rfl,trivial⟩,rfl⟩
 subst hw
 obtain ⟨F,hF3⟩ : ∃ F,foundM (cdP W (s1,s2)) (relN Ln W n n1 n2) Ln = F:=⟨_,rfl⟩
 have hs0:=cdP_lt hs
 have hFo : Found (cdP W (s1,s2)) (relN Ln W n n1 n2) Ln F:=by
  rw [← hF3]
  exact foundM_found2 hPI.shape hs0.1 (by rw [PairsI.len]; exact hs0.2)
 have hr : ∀ r : Int,0 ≤ r → r < n → ∀ c,c < Ln → -1 ≤ tgtM (relN Ln W n n1 n2) r c ∧ tgtM (relN Ln W n n1 n2) r c < n:=fun r h1 h2 c hc=>by
  have:=tgt_range hPI.shape r h1 (by rw [PairsI.len]; exact h2) c (by rw [Int.toNat_natCast]; exact hc)
  rwa [PairsI.len] at this
 refine wp_seq (wp_seq (any_cut 7 [(7,Vp fb),(10,.bool true)] (fun w'=>∃ (mb : Nat) (vf : Value) (xs : List (Int × Int)) (rest : List Ow),Hold w4.heap.size w4 w' (findX 78 fb [Vi (-1),Vi (-1)] mb vf :: oP vf xs :: rest) ∧ F.rows = xs.map (fun x=>(plc W x.1 x.2 : Int)) ∧ (∀ x ∈ xs,inR W n x)) mixed hS ?_ (fun a w7 hS h=>?_)))
 ·have hwB : RowKit.Below w4.heap.size w4 w6:=by
   obtain ⟨mb,vf,xs,h,-⟩:=h
   exact h.b
  obtain ⟨hx,hz,hm,hm2⟩:=K _ hwB
  have hy : RowKit.Below w6.drew.heap.size w6.drew w6.drew:=RowKit.Below.refl _ _
  have hd : RowKit.Below w6.heap.size w6 w6.drew:=(RowKit.Below.refl _ _).drew
  refine yT 0 tab_ok rfl (by kernel_rfl) hy rfl (rfl) ?_
  refine yT 1 tab_ok rfl (by kernel_rfl) hy rfl (Exists.intro ([Vi Ln,Vi s1,vn1,ve1]) (And.intro rfl (And.intro (hx.cells) rfl))) ?_
  refine yT 2 tab_ok rfl (by kernel_rfl) hy rfl (Exists.intro ([Vi Ln,Vi s2,vn2,ve2]) (And.intro rfl (And.intro (hz.cells) rfl))) ?_
  refine yT 4 tab_ok rfl (by kernel_rfl) hy rfl (rfl) ?_
  refine yL 5 tab_ok rfl (by kernel_rfl) hy rfl rfl (hx.c0) ?_
  refine yT 6 tab_ok rfl (by kernel_rfl) hy rfl (rfl) ?_
  refine y_one 3 (by kernel_rfl) (y_op 3 tab_ok rfl rfl rfl rfl ?_)
  refine And.intro en_astarts ((astarts_any (Ln : Int) s1 (Ln : Int) s2 vn1 ve1 vn2 ve2 _).mono ?_)
  rintro e w7 ⟨rfl,k1⟩
  refine ⟨_,rfl,?_⟩
  refine And.intro (.inr k1) ?_
  have h7:=(h.below hd).below k1
  refine y_one 7 (by kernel_rfl) (y_op 7 tab_ok rfl rfl rfl rfl ?_)
  have hsr:=searchP_any (x0:=(s1,s2)) (L:=Ln) (lim:=20000) (S:=36) (caps:=#[Vp B,Vp (B + 1)]) (next:=relN Ln W n n1 n2) (F:=F) h7 (by omega) PairsI.len hs (by omega) (by omega) (by omega) hr en_relate1
   (fun y c w8 hyr hc hw8=>by
    obtain ⟨hx8,hz8,hm8,hm28⟩:=K _ hw8.b
    obtain ⟨r1,r2⟩:=hPI.rng hyr
    exact (relate1_any (Ln : Int) s1 (Ln : Int) s2 y.1 y.2 (c : Int) vn1 ve1 vn2 ve2 n1 n2 w8 hx8 hz8 hm8.n hm28.n r1 r2 (shape_row hs1 r1 (by omega)) (shape_row hs2 r2 (by omega))).mono (fun e w9 h9=>⟨step2 n1 n2 y c,hPI.stepR hyr hc,h9.1,hPI.tgt hyr hc,h9.2⟩)) hF3
  refine And.intro en_searchP (hsr.mono ?_)
  rintro e w8 ⟨vn,vs,rfl,-,-,mb,vf,xs,h8,hrs,-,-,hin⟩
  refine ⟨_,rfl,?_⟩
  refine And.intro (.inl (by kernel_rfl)) ?_
  refine yG 8 tab_ok rfl (by kernel_rfl) (.inl (by kernel_rfl)) rfl rfl ?_
  refine yG 9 tab_ok rfl (by kernel_rfl) (.inl (by kernel_rfl)) rfl rfl ?_
  refine yG 10 tab_ok rfl (by kernel_rfl) (.inl (by kernel_rfl)) rfl rfl ?_
  refine yG 11 tab_ok rfl (by kernel_rfl) (.inl (by kernel_rfl)) rfl rfl ?_
  refine yG 12 tab_ok rfl (by kernel_rfl) (.inl (by kernel_rfl)) rfl rfl ?_
  exact y_end (by kernel_rfl) ⟨rfl,rfl,trivial⟩ ⟨mb,vf,xs,_,h8,hrs,hin⟩
 obtain ⟨mb,vf,xs,rest,h,hrs,hin⟩:=h
 have hcap:=hFo.inn.ok.cap
 rw [PairsI.len] at hcap
 have hxl : F.rows.length = xs.length:=by rw [hrs,List.length_map]
 refine wp_seq (seq_cut [(7,Vp fb),(36,.bool false)] (· = w7) tab_ok hS ?_ (fun a w8 hS hw=>?_))
 ·repeat first|refine zP rfl ?_|refine zK rfl ?_
  exact o_nil ⟨⟨rfl,rfl,trivial⟩,rfl⟩
 subst hw
 refine cond hS rfl (fun hT=>by cases hT) (fun _=>wp_skip ?_)
 refine wp_seq (seq_cutx (α:=List (Int × Int)) (fun _=>[(7,Vp fb)]) (fun ys w'=>ys.Perm xs ∧ ys.Pairwise (fun x y=>¬ befP y x) ∧ Hold w4.heap.size w4 w' (findX 78 fb [Vi (-1),Vi (-1)] mb vf :: oP vf ys :: rest)) tab_ok hS ?_ (fun ys a w9 hS hw=>?_))
 ·obtain ⟨gf,nf,cf,rfl⟩ : ∃ g n c,vf = .slice g n c:=by
   obtain ⟨g,c,e,-⟩:=h.r.any (i:=1) rfl
   exact ⟨_,_,_,e⟩
  repeat first|refine zP rfl ?_|refine zK rfl ?_
  refine zL rfl (h.r.xcell (i:=0) rfl (j:=3) rfl) ?_
  refine zF rfl (en_SortFunc) (sort_pairs h (i:=1) rfl (by omega)) ?_
  rintro e w9 ⟨rfl,ys,hp,hso,h9⟩
  refine ⟨_,rfl,?_⟩
  repeat first|refine zP rfl ?_|refine zK rfl ?_
  exact o_nil ⟨ys,⟨rfl,trivial⟩,hp,hso,h9⟩
 obtain ⟨hp,hso,h⟩:=hw
 refine wp_seq (seq_cut [(4,vf),(5,Vi 0)] (· = w9) tab_ok hS ?_ (fun a w10 hS hw=>?_))
 ·repeat first|refine zP rfl ?_|refine zK rfl ?_
  refine zL rfl (h.r.xcell (i:=0) rfl (j:=3) rfl) ?_
  repeat first|refine zP rfl ?_|refine zK rfl ?_
  exact o_nil ⟨⟨rfl,rfl,trivial⟩,rfl⟩
 subst hw
 have hrel:=hPI.rel hF3 hFo hrs hin hp hso
 have hsl:=ownP_slp (l:=ys) (h.r.1 1 _ rfl) rfl (fun x hx=>by
  have:=hin x (hp.mem_iff.1 hx)
  unfold I64; omega)
 refine wp_ret ?_
 repeat (first | refine then_ret ?_ | refine block_ret ?_)
 exact ret2 hS rfl rfl rfl ⟨vf,ys,0,rfl,hsl,below_trans hB h.b,.inr (.inr ⟨htw,by rw [Int.toNat_natCast]; exact hal,rfl,by rw [Int.toNat_natCast]; exact hrel⟩)⟩
theorem aDiffer_c : DifferC 14:=fun L1 s1 L2 s2 vn1 ve1 vn2 ve2 n1 n2 f1 f2 w hm hm2 _ _=>aDiffer_any L1 s1 L2 s2 vn1 ve1 vn2 ve2 n1 n2 f1 f2 w hm hm2
theorem awakeC : AwakeC:=⟨aLeast_c,aDiffer_c,aRelate_c,aCheck_c,aCount_c,aAccepts_c⟩
end Go.Proofs.YthcoppfiahnpoaaGreat
namespace Go.Proofs.YthcoppfiahnpoaaGreat
namespace Jn
open Go Sym
def tab : Sym.Tab:=⟨50,.other,1,8,.nilFunc⟩ :: ⟨52,.other,1,8,.nilFunc⟩ :: Go.Proofs.YthcoppfiahnpoaaGreat.tab
theorem tab_ok : Sym.Tab.ok Tryz.prog tab:=⟨⟨⟨by kernel_rfl,by kernel_rfl⟩,by kernel_rfl⟩,⟨⟨by kernel_rfl,by kernel_rfl⟩,by kernel_rfl⟩,Go.Proofs.YthcoppfiahnpoaaGreat.tab_ok⟩
theorem en_aBoth : enters Tryz.prog 8 = true:=by kernel_rfl
theorem en_aEither : enters Tryz.prog 10 = true:=by kernel_rfl
theorem en_acombine : enters Tryz.prog 22 = true:=by kernel_rfl
theorem en_b1 : enters Tryz.prog 20 = true:=by kernel_rfl
theorem en_b2 : enters Tryz.prog 23 = true:=by kernel_rfl
theorem en_e1 : enters Tryz.prog 24 = true:=by kernel_rfl
theorem en_e2 : enters Tryz.prog 25 = true:=by kernel_rfl
theorem en_c1 : enters Tryz.prog 50 = true:=by kernel_rfl
theorem en_c2 : enters Tryz.prog 51 = true:=by kernel_rfl
structure KeepC (both : Bool) (f : Nat) : Prop where
 en : enters Tryz.prog f = true
 c : ∀ (p : Int × Int) (w : World),Calls Tryz.prog f #[pairV p] w fun e w'=>e = .returned (pairV (keepB both p)) ∧ RowKit.Below w.heap.size w w'
structure DecC (both : Bool) (f : Nat) : Prop where
 en : enters Tryz.prog f = true
 c : ∀ (x y : Bool) (w : World),Calls Tryz.prog f #[.bool x,.bool y] w fun e w'=>e = .returned (.bool (joinB both x y)) ∧ RowKit.Below w.heap.size w w'
theorem both2 : DecC true 23:=⟨en_b2,fun x y w=>by
 refine Sym.enter (args:=[.bool x,.bool y]) Tryz.func23 rfl rfl rfl (fun a0 hS0=>?_)
 refine wp_seq (seq_cut [(0,.bool x),(1,.bool y)] (· = w) tab_ok hS0 ?_ (fun a w1 hS hw=>?_))
 ·repeat first|refine zP rfl ?_|refine zK rfl ?_
  exact o_nil ⟨⟨rfl,rfl,trivial⟩,rfl⟩
 subst hw
 refine wp_seq (seq_cut [(4,.bool (joinB true x y))] (· = w1) tab_ok hS ?_ (fun a w2 hS hw=>?_))
 ·cases x
  ·repeat first|refine zP rfl ?_|refine zK rfl ?_
   exact o_nil ⟨⟨rfl,trivial⟩,rfl⟩
  ·cases y
   ·repeat first|refine zP rfl ?_|refine zK rfl ?_
    exact o_nil ⟨⟨rfl,trivial⟩,rfl⟩
   ·repeat first|refine zP rfl ?_|refine zK rfl ?_
    exact o_nil ⟨⟨rfl,trivial⟩,rfl⟩
 subst hw
 refine wp_ret ?_
 repeat (first | refine then_ret ?_ | refine block_ret ?_)
 exact ret1 hS rfl rfl ⟨rfl,RowKit.Below.refl _ _⟩⟩
theorem either2 : DecC false 25:=⟨en_e2,fun x y w=>by
 refine Sym.enter (args:=[.bool x,.bool y]) Tryz.func25 rfl rfl rfl (fun a0 hS0=>?_)
 refine wp_seq (seq_cut [(0,.bool x),(1,.bool y)] (· = w) tab_ok hS0 ?_ (fun a w1 hS hw=>?_))
 ·repeat first|refine zP rfl ?_|refine zK rfl ?_
  exact o_nil ⟨⟨rfl,rfl,trivial⟩,rfl⟩
 subst hw
 refine wp_seq (seq_cut [(4,.bool (joinB false x y))] (· = w1) tab_ok hS ?_ (fun a w2 hS hw=>?_))
 ·cases x
  ·cases y
   ·repeat first|refine zP rfl ?_|refine zK rfl ?_
    exact o_nil ⟨⟨rfl,trivial⟩,rfl⟩
   ·repeat first|refine zP rfl ?_|refine zK rfl ?_
    exact o_nil ⟨⟨rfl,trivial⟩,rfl⟩
  ·repeat first|refine zP rfl ?_|refine zK rfl ?_
   exact o_nil ⟨⟨rfl,trivial⟩,rfl⟩
 subst hw
 refine wp_ret ?_
 repeat (first | refine then_ret ?_ | refine block_ret ?_)
 exact ret1 hS rfl rfl ⟨rfl,RowKit.Below.refl _ _⟩⟩
theorem either1 : KeepC false 24:=⟨en_e1,fun p w=>by
 refine Sym.enter (args:=[.agg #[Vi p.1,Vi p.2]]) Tryz.func24 rfl rfl rfl (fun a0 hS0=>?_)
 obtain ⟨B,hBB⟩ : ∃ B,B = w.heap.size:=⟨_,rfl⟩
 refine wp_seq (seq_cut [(1,Vp B),(2,Vp (B + 1))] (· = (w.alloc (.cells #[Vi p.1,Vi p.2] 48)).alloc (.cells #[Vi 0,Vi 0] 48)) tab_ok hS0 ?_ (fun a wc hS hw=>?_))
 ·subst hBB
  refine zB rfl ?_
  refine zB rfl ?_
  rw [alloc_size]
  repeat first|refine zP rfl ?_|refine zK rfl ?_
  exact o_nil ⟨⟨rfl,rfl,trivial⟩,rfl⟩
 obtain ⟨hB,hp,-⟩:=pair_boxes hw
 have ho : OwnB wc (w.heap.size + 1) 48 [Vi 0,Vi 0]:=by
  have:=OwnB.new (w.alloc (.cells #[Vi p.1,Vi p.2] 48)) [Vi 0,Vi 0] 48
  rw [alloc_size] at this
  rw [hw]; exact this
 rw [← hBB] at hp ho
 clear hw
 obtain ⟨h5,h6⟩:=put_pair ho hB (by omega) (Vi p.1) (Vi p.2)
 refine wp_seq (seq_cut [(2,Vp (B + 1))] (fun w'=>OwnB w' (B + 1) 48 [Vi p.1,Vi p.2] ∧ RowKit.Below w.heap.size w w') tab_ok hS ?_ (fun a w2 hS hw=>?_))
 ·refine zA ([Vi p.1,Vi p.2]) rfl rfl (hp.cells) ?_
  refine o_step0 rfl rfl (And.intro rfl (And.intro rfl (And.intro (own_cells2 ho) ?_)))
  exact o_nil ⟨⟨rfl,trivial⟩,h5,h6⟩
 obtain ⟨h5,h6⟩:=hw
 have e : keepB false p = p:=by unfold keepB; rw [if_neg (by simp)]
 rw [e]
 refine wp_ret ?_
 repeat (first | refine then_ret ?_ | refine block_ret ?_)
 exact retc1 tab_ok hS rfl rfl rfl rfl (o:=0) (vs:=[Vi p.1,Vi p.2]) ⟨h5.cell (i:=0) rfl,h5.cell (i:=1) rfl,trivial⟩ rfl ⟨rfl,h6⟩⟩
theorem both1 : KeepC true 20:=⟨en_b1,fun p w=>by
 refine Sym.enter (args:=[.agg #[Vi p.1,Vi p.2]]) Tryz.func20 rfl rfl rfl (fun a0 hS0=>?_)
 obtain ⟨B,hBB⟩ : ∃ B,B = w.heap.size:=⟨_,rfl⟩
 refine wp_seq (seq_cut [(1,Vp B),(2,Vp (B + 1))] (· = (w.alloc (.cells #[Vi p.1,Vi p.2] 48)).alloc (.cells #[Vi 0,Vi 0] 48)) tab_ok hS0 ?_ (fun a wc hS hw=>?_))
 ·subst hBB
  refine zB rfl ?_
  refine zB rfl ?_
  rw [alloc_size]
  repeat first|refine zP rfl ?_|refine zK rfl ?_
  exact o_nil ⟨⟨rfl,rfl,trivial⟩,rfl⟩
 obtain ⟨hB,hp,-⟩:=pair_boxes hw
 have ho : OwnB wc (w.heap.size + 1) 48 [Vi 0,Vi 0]:=by
  have:=OwnB.new (w.alloc (.cells #[Vi p.1,Vi p.2] 48)) [Vi 0,Vi 0] 48
  rw [alloc_size] at this
  rw [hw]; exact this
 rw [← hBB] at hp ho
 clear hw
 refine wp_seq (wp_seq (seq_cutx (α:=Bool) (fun b=>[(1,Vp B),(2,Vp (B + 1)),(10,.bool b)]) (fun b w'=>w' = wc ∧ (b = true ↔ (p.1 < 0 ∨ p.2 < 0))) tab_ok hS ?_ (fun b a w1 hS hb=>?_)))
 ·by_cases h0 : p.1 < 0
  ·repeat first|refine zP rfl ?_|refine zK rfl ?_
   refine zL rfl (hp.c0) ?_
   refine zC rfl (decide_eq_true h0) ?_
   repeat first|refine zP rfl ?_|refine zK rfl ?_
   exact o_nil ⟨true,⟨rfl,rfl,rfl,trivial⟩,rfl,by simp [h0]⟩
  ·by_cases h1 : p.2 < 0
   ·repeat first|refine zP rfl ?_|refine zK rfl ?_
    refine zL rfl (hp.c0) ?_
    refine zC rfl (decide_eq_false h0) ?_
    repeat first|refine zP rfl ?_|refine zK rfl ?_
    refine zL rfl (hp.c1) ?_
    refine zC rfl (decide_eq_true h1) ?_
    repeat first|refine zP rfl ?_|refine zK rfl ?_
    exact o_nil ⟨true,⟨rfl,rfl,rfl,trivial⟩,rfl,by simp [h1]⟩
   ·repeat first|refine zP rfl ?_|refine zK rfl ?_
    refine zL rfl (hp.c0) ?_
    refine zC rfl (decide_eq_false h0) ?_
    repeat first|refine zP rfl ?_|refine zK rfl ?_
    refine zL rfl (hp.c1) ?_
    refine zC rfl (decide_eq_false h1) ?_
    repeat first|refine zP rfl ?_|refine zK rfl ?_
    exact o_nil ⟨false,⟨rfl,rfl,rfl,trivial⟩,rfl,by simp [h0,h1]⟩
 obtain ⟨rfl,hb⟩:=hb
 refine cond hS rfl (fun hT=>?_) (fun hF=>wp_skip ?_)
 ·have e : keepB true p = (-1,-1):=by unfold keepB; rw [if_pos ⟨rfl,hb.1 hT⟩]
  rw [e]
  refine wp_seq (seq_cut [(2,Vp (B + 1))] (fun w'=>OwnB w' (B + 1) 48 [Vi (-1),Vi (-1)] ∧ RowKit.Below w.heap.size w w') tab_ok hS ?_ (fun a w2 hS hw=>?_))
  ·refine zF rfl (en_anowhere) (anowhere_any _) ?_
   rintro e w3 ⟨rfl,k1⟩
   refine ⟨_,rfl,?_⟩
   have ho2:=ho.keep k1 ho.lt
   obtain ⟨h5,h6⟩:=put_pair ho2 (below_trans hB k1) (by omega) (Vi (-1)) (Vi (-1))
   refine o_step0 rfl rfl (And.intro rfl (And.intro rfl (And.intro (own_cells2 ho2) ?_)))
   exact o_nil ⟨⟨rfl,trivial⟩,h5,h6⟩
  obtain ⟨h5,h6⟩:=hw
  refine wp_ret ?_
  repeat (first | refine then_ret ?_ | refine block_ret ?_)
  exact retc1 tab_ok hS rfl rfl rfl rfl (o:=0) (vs:=[Vi (-1),Vi (-1)]) ⟨h5.cell (i:=0) rfl,h5.cell (i:=1) rfl,trivial⟩ rfl ⟨rfl,h6⟩
 have e : keepB true p = p:=by
  unfold keepB
  rw [if_neg (fun h=>by have:=hb.2 h.2; rw [hF] at this; cases this)]
 rw [e]
 obtain ⟨h5,h6⟩:=put_pair ho hB (by omega) (Vi p.1) (Vi p.2)
 refine wp_seq (seq_cut [(2,Vp (B + 1))] (fun w'=>OwnB w' (B + 1) 48 [Vi p.1,Vi p.2] ∧ RowKit.Below w.heap.size w w') tab_ok hS ?_ (fun a w2 hS hw=>?_))
 ·refine zA ([Vi p.1,Vi p.2]) rfl rfl (hp.cells) ?_
  refine o_step0 rfl rfl (And.intro rfl (And.intro rfl (And.intro (own_cells2 ho) ?_)))
  exact o_nil ⟨⟨rfl,trivial⟩,h5,h6⟩
 obtain ⟨h5,h6⟩:=hw
 refine wp_ret ?_
 repeat (first | refine then_ret ?_ | refine block_ret ?_)
 exact retc1 tab_ok hS rfl rfl rfl rfl (o:=0) (vs:=[Vi p.1,Vi p.2]) ⟨h5.cell (i:=0) rfl,h5.cell (i:=1) rfl,trivial⟩ rfl ⟨rfl,h6⟩⟩
set_option maxHeartbeats 1000000 in
theorem combine1_any {both : Bool} {fk bk b1 b2 : Nat} (hK : KeepC both fk) (L1 s1 L2 s2 l : Int) (p : Int × Int) (vn1 ve1 vn2 ve2 : Value) (n1 n2 : List (List Int)) (w : World) (hf : w.cell? ⟨bk,0,none⟩ = some (.func (.func fk) #[] #[])) (hx : Box w b1 L1 s1 vn1 ve1) (hz : Box w b2 L2 s2 vn2 ve2) (hn1 : Sl w vn1 n1 PRow) (hn2 : Sl w vn2 n2 PRow) (h1 : p.1 < n1.length) (h2 : p.2 < n2.length) (h3 : 0 ≤ p.1 → 0 ≤ l ∧ l < (n1.getD p.1.toNat []).length) (h4 : 0 ≤ p.2 → 0 ≤ l ∧ l < (n2.getD p.2.toNat []).length) :
  Calls Tryz.prog 50 #[pairV p,Vi l,Vp bk,Vp b1,Vp b2] w fun e w'=>e = .returned (pairV (keepB both (stepM n1 p.1 l,stepM n2 p.2 l))) ∧ RowKit.Below w.heap.size w w':=by
 refine Sym.enter (args:=[.agg #[Vi p.1,Vi p.2],Vi l,Vp bk,Vp b1,Vp b2]) Tryz.func50 rfl rfl rfl (fun a0 hS0=>?_)
 obtain ⟨B,hBB⟩ : ∃ B,B = w.heap.size:=⟨_,rfl⟩
 refine wp_seq (seq_cut [(1,Vi l),(2,Vp bk),(3,Vp b1),(4,Vp b2),(5,Vp B),(7,Vp (B + 1))] (· = (w.alloc (.cells #[Vi p.1,Vi p.2] 48)).alloc (.cells #[Vi 0,Vi 0] 48)) tab_ok hS0 ?_ (fun a wc hS hw=>?_))
 ·subst hBB
  refine zB rfl ?_
  refine zB rfl ?_
  rw [alloc_size]
  repeat first|refine zP rfl ?_|refine zK rfl ?_
  exact o_nil ⟨⟨rfl,rfl,rfl,rfl,rfl,rfl,trivial⟩,rfl⟩
 obtain ⟨hB,hp,-⟩:=pair_boxes hw
 have ho : OwnB wc (w.heap.size + 1) 48 [Vi 0,Vi 0]:=by
  have:=OwnB.new (w.alloc (.cells #[Vi p.1,Vi p.2] 48)) [Vi 0,Vi 0] 48
  rw [alloc_size] at this
  rw [hw]; exact this
 rw [← hBB] at hp ho
 clear hw
 have hd : RowKit.Below wc.heap.size wc wc.drew:=(RowKit.Below.refl _ _).drew
 have hB2:=below_trans hB hd
 obtain ⟨q,hq⟩ : ∃ q,q = keepB both (stepM n1 p.1 l,stepM n2 p.2 l):=⟨_,rfl⟩
 rw [← hq]
 refine wp_seq (any_cut 7 [(7,Vp (B + 1))] (fun w'=>OwnB w' (B + 1) 48 [Vi q.1,Vi q.2] ∧ RowKit.Below w.heap.size w w') mixed hS ?_ (fun a w2 hS hw=>?_))
 ·have hy : RowKit.Below wc.drew.heap.size wc.drew wc.drew:=RowKit.Below.refl _ _
  refine yL 0 tab_ok rfl (by kernel_rfl) hy rfl rfl (keep hB2 hf) ?_
  refine yT 1 tab_ok rfl (by kernel_rfl) hy rfl (Exists.intro ([Vi L1,Vi s1,vn1,ve1]) (And.intro rfl (And.intro ((hx.keep hB2).cells) rfl))) ?_
  refine yT 2 tab_ok rfl (by kernel_rfl) hy rfl (Exists.intro ([Vi L2,Vi s2,vn2,ve2]) (And.intro rfl (And.intro ((hz.keep hB2).cells) rfl))) ?_
  refine yT 3 tab_ok rfl (by kernel_rfl) hy rfl (Exists.intro ([Vi p.1,Vi p.2]) (And.intro rfl (And.intro ((hp.keep hd).cells) rfl))) ?_
  refine yT 4 tab_ok rfl (by kernel_rfl) hy rfl (rfl) ?_
  refine y_one 5 (by kernel_rfl) (y_op 5 tab_ok rfl rfl rfl rfl ?_)
  refine And.intro en_afollowBoth ((afollowBoth_any L1 s1 L2 s2 p.1 p.2 l vn1 ve1 vn2 ve2 n1 n2 _ (hn1.keep hB2 (fun _ _ h=>PRow.keep hB2 h)) (hn2.keep hB2 (fun _ _ h=>PRow.keep hB2 h)) h1 h2 h3 h4).mono ?_)
  rintro e w3 ⟨rfl,k1⟩
  refine ⟨_,rfl,?_⟩
  refine And.intro (.inr k1) ?_
  refine y_one 6 (by kernel_rfl) (y_op 6 tab_ok rfl rfl rfl rfl ?_)
  refine And.intro hK.en ((hK.c (stepM n1 p.1 l,stepM n2 p.2 l) w3).mono ?_)
  rintro e w4 ⟨rfl,k2⟩
  refine ⟨_,rfl,?_⟩
  have k3:=below_trans k1 k2
  refine And.intro (.inr k3) ?_
  rw [← hq]
  have ho2:=(ho.keep hd ho.lt).keep k3 (by rw [drew_size]; exact ho.lt)
  obtain ⟨h5,h6⟩:=put_pair ho2 (below_trans hB2 k3) (by omega) (Vi q.1) (Vi q.2)
  refine y_one 7 (by kernel_rfl) (y_op0 7 tab_ok rfl rfl rfl ?_)
  refine And.intro rfl (And.intro rfl (And.intro (own_cells2 ho2) (And.intro (.inl (by kernel_rfl)) ?_)))
  exact y_end (by kernel_rfl) ⟨rfl,trivial⟩ ⟨h5,h6⟩
 obtain ⟨h5,h6⟩:=hw
 refine wp_ret ?_
 repeat (first | refine then_ret ?_ | refine block_ret ?_)
 exact retc1 tab_ok hS rfl rfl rfl rfl (o:=0) (vs:=[Vi q.1,Vi q.2]) ⟨h5.cell (i:=0) rfl,h5.cell (i:=1) rfl,trivial⟩ rfl ⟨rfl,h6⟩
set_option maxHeartbeats 1000000 in
theorem combine2_any {both : Bool} {fk bk b1 b2 : Nat} (hK : DecC both fk) (L1 s1 L2 s2 : Int) (p : Int × Int) (vn1 ve1 vn2 ve2 : Value) (f1 f2 : List Bool) (w : World) (hf : w.cell? ⟨bk,0,none⟩ = some (.func (.func fk) #[] #[])) (hx : Box w b1 L1 s1 vn1 ve1) (hz : Box w b2 L2 s2 vn2 ve2) (he1 : Sl w ve1 f1 PBool) (he2 : Sl w ve2 f2 PBool) (h1 : p.1 < f1.length) (h2 : p.2 < f2.length) :
  Calls Tryz.prog 51 #[pairV p,Vp bk,Vp b1,Vp b2] w fun e w'=>e = .returned (.bool (joinB both (endsM f1 p.1) (endsM f2 p.2))) ∧ RowKit.Below w.heap.size w w':=by
 refine Sym.enter (args:=[.agg #[Vi p.1,Vi p.2],Vp bk,Vp b1,Vp b2]) Tryz.func51 rfl rfl rfl (fun a0 hS0=>?_)
 obtain ⟨B,hBB⟩ : ∃ B,B = w.heap.size:=⟨_,rfl⟩
 refine wp_seq (seq_cut [(1,Vp bk),(2,Vp b1),(3,Vp b2),(4,Vp B)] (· = w.alloc (.cells #[Vi p.1,Vi p.2] 48)) tab_ok hS0 ?_ (fun a wc hS hw=>?_))
 ·subst hBB
  refine zB rfl ?_
  repeat first|refine zP rfl ?_|refine zK rfl ?_
  exact o_nil ⟨⟨rfl,rfl,rfl,rfl,trivial⟩,rfl⟩
 have hp : BoxP wc B p.1 p.2:=by rw [hw,hBB]; exact BoxP.new _ _ _ _
 have hB : RowKit.Below w.heap.size w wc:=by rw [hw]; exact below_alloc _ _
 clear hw
 replace hx:=hx.keep hB
 replace hz:=hz.keep hB
 replace hf:=keep hB hf
 replace he1:=he1.keep hB (fun _ _ h=>h)
 replace he2:=he2.keep hB (fun _ _ h=>h)
 refine wp_seq (quiet_cut [(5,.bool (joinB both (endsM f1 p.1) (endsM f2 p.2)))] tab_ok mixed (by kernel_rfl) hS ?_ (fun a w2 hS hw=>?_))
 ·refine qL rfl (hf) ?_
  refine qA ([Vi L1,Vi s1,vn1,ve1]) rfl rfl (hx.cells) ?_
  refine qP rfl ?_
  refine qL rfl (hp.c0) ?_
  refine qF (.bool (endsM f1 p.1)) rfl (en_aends) (fun w1 k1=>aends_any L1 s1 vn1 ve1 f1 p.1 w1 (he1.keep k1 (fun _ _ h=>h)) h1) ?_
  refine qA ([Vi L2,Vi s2,vn2,ve2]) rfl rfl (hz.cells) ?_
  refine qP rfl ?_
  refine qL rfl (hp.c1) ?_
  refine qF (.bool (endsM f2 p.2)) rfl (en_aends) (fun w1 k1=>aends_any L2 s2 vn2 ve2 f2 p.2 w1 (he2.keep k1 (fun _ _ h=>h)) h2) ?_
  refine qF (.bool (joinB both (endsM f1 p.1) (endsM f2 p.2))) rfl (hK.en) (fun w1 _=>hK.c _ _ w1) ?_
  repeat first|refine qP rfl ?_|refine qK rfl ?_
  exact q_nil ⟨rfl,trivial⟩
 refine wp_ret ?_
 repeat (first | refine then_ret ?_ | refine block_ret ?_)
 exact ret1 hS rfl rfl ⟨rfl,below_trans hB hw⟩
end Jn
end Go.Proofs.YthcoppfiahnpoaaGreat
namespace Go.Proofs.YthcoppfiahnpoaaGreat
namespace Jn
open Go Sym
section
variable {base : Nat} {w0 w w' : World} {l rest : List Ow}
theorem x4 (h : Rows base w l) {i T b : Nat} {v0 v1 v2 v3 : Value} (hi : l[i]? = some (oX T b 4 [v0,v1,v2,v3])) : cellsAt w.cell? b 0 [v0,v1,v2,v3]:=⟨h.xcell hi (j:=0) rfl,h.xcell hi (j:=1) rfl,h.xcell hi (j:=2) rfl,h.xcell hi (j:=3) rfl,trivial⟩
theorem xbox (h : Rows base w l) {i T b : Nat} {L s : Int} {v2 v3 : Value} (hi : l[i]? = some (oX T b 4 [Vi L,Vi s,v2,v3])) : Box w b L s v2 v3:=⟨h.xcell hi (j:=0) rfl,h.xcell hi (j:=1) rfl,h.xcell hi (j:=2) rfl,h.xcell hi (j:=3) rfl⟩
theorem two_ma {A : List Ow} {L s1 s2 : Int} {n1 n2 : List (List Int)} {f1 f2 : List Bool} {vn1 ve1 vn2 ve2 : Value} {vs1 vs2 : List Value} (h : Hold base w0 w (A ++ ((oB ve1 f1 :: nextR vn1 vs1 n1) ++ (oB ve2 f2 :: nextR vn2 vs2 n2))))
  (l1 : vs1.length = n1.length) (l2 : vs2.length = n2.length) (i1 : ∀ l ∈ n1,∀ x ∈ l,I64 x) (i2 : ∀ l ∈ n2,∀ x ∈ l,I64 x) (hL : I64 L) (h1 : I64 s1) (h2 : I64 s2) : Ma w L s1 n1 f1 vn1 ve1 ∧ Ma w L s2 n2 f2 vn2 ve2:=by
 have e1:=h.perm (l':=oB ve1 f1 :: (nextR vn1 vs1 n1 ++ ((oB ve2 f2 :: nextR vn2 vs2 n2) ++ A))) (by
  refine List.perm_append_comm.trans ?_
  rw [List.append_assoc]; exact .refl _)
 have e2:=h.perm (l':=oB ve2 f2 :: (nextR vn2 vs2 n2 ++ (A ++ (oB ve1 f1 :: nextR vn1 vs1 n1)))) (by
  rw [← List.append_assoc]; exact List.perm_append_comm)
 exact ⟨ma_rows e1 l1 i1 hL h1,ma_rows e2 l2 i2 hL h2⟩
theorem comb_end1 {x a : Ow} {A : List Ow} (h : Hold base w0 w (x :: a :: (A ++ []))) : Hold base w0 w (x :: a :: A):=by rwa [List.append_nil] at h
end
section
variable {base : Nat} {w0 w w' : World} {both : Bool} {fk fd b0 b1 bk bd R Ln W n : Nat} {s1 s2 : Int} {vn1 ve1 vn2 ve2 : Value} {vs1 vs2 : List Value} {n1 n2 : List (List Int)} {f1 f2 : List Bool} {F : FS}
theorem comb_end2 {x a : Ow} {A : List Ow} (h : Hold base w0 w (a :: (A ++ [x]))) : Hold base w0 w (x :: a :: A):=h.perm (List.perm_append_comm (l₁:=a :: A) (l₂:=[x]))
set_option maxHeartbeats 4000000 in
theorem comb_r8 (hK : KeepC both fk) (hDc : DecC both fd) (h : Hold base w0 w ([oX 25 R 4 [Vi 0,Vi 0,.slice none 0 0,.slice none 0 0],oX 52 bd 1 [.func (.func fd) #[] #[]],oX 50 bk 1 [.func (.func fk) #[] #[]],oX 25 b1 4 [Vi Ln,Vi s2,vn2,ve2],oX 25 b0 4 [Vi Ln,Vi s1,vn1,ve1]] ++ ((oB ve1 f1 :: nextR vn1 vs1 n1) ++ (oB ve2 f2 :: nextR vn2 vs2 n2)))) (l1 : vs1.length = n1.length) (l2 : vs2.length = n2.length) (i1 : ∀ l ∈ n1,∀ x ∈ l,I64 x) (i2 : ∀ l ∈ n2,∀ x ∈ l,I64 x) (h1 : I64 s1) (h2 : I64 s2)
  (hPI : PairsI Ln W n s1 n1 f1 s2 n2 f2) (hL : Ln ≤ 100000) (hn : n ≤ 20000) (hF : foundM (cdP W (keepB both (s1,s2))) (joinN Ln W n n1 n2 both) Ln = F)
  {Q : Exit → Act → World → Prop} {a : Act} {ops : Array Oper} {id : Nat} (hops : Sym.regionOf Tryz.f22.body 8 = some (id,ops)) (hS : St Tryz.f22.ntmps a [(4,Vp b0),(5,Vp b1),(6,Vp bk),(7,Vp bd),(8,Vp R),(11,.func (.func 50) #[] #[Vp bk,Vp b0,Vp b1]),(12,.func (.func 51) #[] #[Vp bd,Vp b0,Vp b1])])
  (hq : ∀ (x : Nat × Value × Value × List Value) a' w',St Tryz.f22.ntmps a' [(4,Vp b0),(5,Vp b1),(6,Vp bk),(7,Vp bd),(8,Vp R),(13,Vp x.1),(14,Vi 0)] → x.2.2.2.length = F.rows.length ∧ (∀ l ∈ F.rows.map (renumM F.place (joinN Ln W n n1 n2 both) Ln),∀ x ∈ l,I64 x) ∧ Hold base w0 w' ((oX 25 x.1 4 [Vi Ln,Vi (if F.rows.length = 0 then -1 else 0 : Int),x.2.1,x.2.2.1] :: (oB x.2.2.1 (foundFin F (joinF W n f1 f2 both)) :: nextR x.2.1 x.2.2.2 (F.rows.map (renumM F.place (joinN Ln W n n1 n2 both) Ln)))) ++ ([oX 25 R 4 [Vi 0,Vi 0,.slice none 0 0,.slice none 0 0],oX 52 bd 1 [.func (.func fd) #[] #[]],oX 50 bk 1 [.func (.func fk) #[] #[]],oX 25 b1 4 [Vi Ln,Vi s2,vn2,ve2],oX 25 b0 4 [Vi Ln,Vi s1,vn1,ve1]] ++ ((oB ve1 f1 :: nextR vn1 vs1 n1) ++ (oB ve2 f2 :: nextR vn2 vs2 n2)))) → Q .normal a' w') : (Code.region id ops true).wp Tryz.prog Q a w:=by
 cases hops
 refine any_cutx (α:=Nat × Value × Value × List Value) 15 (fun x=>[(4,Vp b0),(5,Vp b1),(6,Vp bk),(7,Vp bd),(8,Vp R),(13,Vp x.1),(14,Vi 0)]) (fun x w'=>x.2.2.2.length = F.rows.length ∧ (∀ l ∈ F.rows.map (renumM F.place (joinN Ln W n n1 n2 both) Ln),∀ x ∈ l,I64 x) ∧ Hold base w0 w' ((oX 25 x.1 4 [Vi Ln,Vi (if F.rows.length = 0 then -1 else 0 : Int),x.2.1,x.2.2.1] :: (oB x.2.2.1 (foundFin F (joinF W n f1 f2 both)) :: nextR x.2.1 x.2.2.2 (F.rows.map (renumM F.place (joinN Ln W n n1 n2 both) Ln)))) ++ ([oX 25 R 4 [Vi 0,Vi 0,.slice none 0 0,.slice none 0 0],oX 52 bd 1 [.func (.func fd) #[] #[]],oX 50 bk 1 [.func (.func fk) #[] #[]],oX 25 b1 4 [Vi Ln,Vi s2,vn2,ve2],oX 25 b0 4 [Vi Ln,Vi s1,vn1,ve1]] ++ ((oB ve1 f1 :: nextR vn1 vs1 n1) ++ (oB ve2 f2 :: nextR vn2 vs2 n2))))) mixed hS ?_ hq
 have hy0 : RowKit.Below w.drew.heap.size w.drew w.drew:=RowKit.Below.refl _ _
 have hD:=h.drew
 have hs0:=Hold.start w.drew
 have hLI : I64 (Ln : Int):=by unfold I64; omega
 have hs1:=hPI.h1
 have hs2:=hPI.h2
 have facts : ∀ u,RowKit.Below w.drew.heap.size w.drew u → Box u b0 Ln s1 vn1 ve1 ∧ Box u b1 Ln s2 vn2 ve2 ∧ u.cell? ⟨bk,0,none⟩ = some (.func (.func fk) #[] #[]) ∧ u.cell? ⟨bd,0,none⟩ = some (.func (.func fd) #[] #[]) ∧ Ma u Ln s1 n1 f1 vn1 ve1 ∧ Ma u Ln s2 n2 f2 vn2 ve2:=fun u hu=>by
  have hDu:=hD.below hu
  obtain ⟨m1,m2⟩:=two_ma (L:=(Ln : Int)) (s1:=s1) (s2:=s2) hDu l1 l2 i1 i2 hLI h1 h2
  exact ⟨xbox hDu.r (i:=4) rfl,xbox hDu.r (i:=3) rfl,hDu.r.xcell (i:=2) rfl (j:=0) rfl,hDu.r.xcell (i:=1) rfl (j:=0) rfl,m1,m2⟩
 have hst : ∀ {rs : List Ow} (y : Int × Int) (c : Nat) (u : World),inR W n y → c < Ln → Hold w.drew.heap.size w.drew u rs → Calls Tryz.prog 50 ([pairV y,Vi c] ++ (#[Vp bk,Vp b0,Vp b1] : Array Value).toList).toArray u fun e u'=>∃ z : Int × Int,inR W n z ∧ e = .returned (pairV z) ∧ tgtM (joinN Ln W n n1 n2 both) (plc W y.1 y.2 : Int) c = cdP W z ∧ RowKit.Below u.heap.size u u':=fun y c u hyr hc hu=>by
  obtain ⟨x1,x2,x3,x4,m1,m2⟩:=facts u hu.b
  obtain ⟨r1,r2⟩:=hPI.rng hyr
  exact (combine1_any hK Ln s1 Ln s2 c y vn1 ve1 vn2 ve2 n1 n2 u x3 x1 x2 m1.n m2.n r1 r2 (shape_row hs1 r1 (by omega)) (shape_row hs2 r2 (by omega))).mono (fun e u' h9=>⟨keepB both (step2 n1 n2 y c),hPI.keepR (hPI.stepR hyr hc),h9.1,hPI.jtgt hyr hc,h9.2⟩)
 have hnd : ∀ {rs : List Ow} (y : Int × Int) (u : World),inR W n y → Hold w.drew.heap.size w.drew u rs → Calls Tryz.prog 51 ([pairV y] ++ (#[Vp bd,Vp b0,Vp b1] : Array Value).toList).toArray u fun e u'=>e = .returned (.bool ((joinF W n f1 f2 both).getD (plc W y.1 y.2) false)) ∧ RowKit.Below u.heap.size u u':=fun y u hyr hu=>by
  obtain ⟨x1,x2,x3,x4,m1,m2⟩:=facts u hu.b
  obtain ⟨r1,r2⟩:=hPI.rng hyr
  rw [hPI.jfin hyr]
  exact combine2_any hDc Ln s1 Ln s2 y vn1 ve1 vn2 ve2 f1 f2 u x4 x1 x2 m1.e m2.e (by rw [hs1.fin]; exact r1) (by rw [hs2.fin]; exact r2)
 have hx0 : inR W n (keepB both (s1,s2)):=hPI.keepR (hPI.mk' hs1.s1 hs1.s2 hs2.s1 hs2.s2)
 have bld : ∀ {u : World} {rs : List Ow},Hold w.drew.heap.size w.drew u rs → _:=fun {u} {rs} hu=>buildP_any (W:=W) (n:=n) (x0:=keepB both (s1,s2)) (L:=Ln) (lim:=20000) (S:=50) (S2:=51) (caps:=#[Vp bk,Vp b0,Vp b1]) (caps2:=#[Vp bd,Vp b0,Vp b1]) (next:=(joinN Ln W n n1 n2 both)) (fin:=(joinF W n f1 f2 both)) (F:=F) (rest:=rs) (w:=u) hu (by omega) joinN_len hx0 hL hn (by omega) (hPI.jshape (both:=both)) en_c1 en_c2 (fun y c u'=>hst (rs:=rs) y c u') (fun y u'=>hnd (rs:=rs) y u') hF
 refine yL 0 tab_ok rfl (by kernel_rfl) hy0 rfl rfl (hD.r.xcell (i:=2) rfl (j:=0) rfl) ?_
 refine yT 1 tab_ok rfl (by kernel_rfl) hy0 rfl (Exists.intro ([Vi Ln,Vi s1,vn1,ve1]) (And.intro rfl (And.intro (x4 hD.r (i:=4) rfl) rfl))) ?_
 refine yT 2 tab_ok rfl (by kernel_rfl) hy0 rfl (Exists.intro ([Vi Ln,Vi s2,vn2,ve2]) (And.intro rfl (And.intro (x4 hD.r (i:=3) rfl) rfl))) ?_
 refine yT 6 tab_ok rfl (by kernel_rfl) hy0 rfl (rfl) ?_
 refine yL 7 tab_ok rfl (by kernel_rfl) hy0 rfl rfl (hD.r.xcell (i:=4) rfl (j:=0) rfl) ?_
 refine yT 8 tab_ok rfl (by kernel_rfl) hy0 rfl (rfl) ?_
 refine yT 9 tab_ok rfl (by kernel_rfl) hy0 rfl (rfl) ?_
 refine y_two 3 14 (by kernel_rfl) (y_op 3 tab_ok rfl rfl rfl rfl ?_) (y_op 14 tab_ok rfl rfl rfl rfl ?_)
 ·refine And.intro en_astarts ((astarts_any (Ln : Int) s1 (Ln : Int) s2 vn1 ve1 vn2 ve2 _).mono ?_)
  rintro e u1 ⟨rfl,k1⟩
  refine ⟨_,rfl,?_⟩
  have hy1:=below_trans hy0 k1
  refine And.intro (.inr hy1) ?_
  have hs1:=hs0.below k1
  refine y_two 4 14 (by kernel_rfl) (y_op 4 tab_ok rfl rfl rfl rfl ?_) (y_op 14 tab_ok rfl rfl rfl rfl ?_)
  ·refine And.intro hK.en ((hK.c (s1,s2) _).mono ?_)
   rintro e u2 ⟨rfl,k2⟩
   refine ⟨_,rfl,?_⟩
   have hy2:=below_trans hy1 k2
   refine And.intro (.inr hy2) ?_
   have hs2:=hs1.below k2
   refine y_two 5 14 (by kernel_rfl) (y_op 5 tab_ok rfl rfl rfl rfl ?_) (y_op 14 tab_ok rfl rfl rfl rfl ?_)
   ·refine And.intro en_anowhere ((anowhere_any _).mono ?_)
    rintro e u3 ⟨rfl,k3⟩
    refine ⟨_,rfl,?_⟩
    have hy3:=below_trans hy2 k3
    refine And.intro (.inr hy3) ?_
    have hs3:=hs2.below k3
    refine y_two 10 14 (by kernel_rfl) (y_op 10 tab_ok rfl rfl rfl rfl ?_) (y_op 14 tab_ok rfl rfl rfl rfl ?_)
    ·refine And.intro en_buildP ((bld hs3).mono ?_)
     rintro e u4 ⟨vn,ve,vs,rfl,-,hvs,hI,hs4⟩
     refine ⟨_,rfl,?_⟩
     have hy4:=hs4.b
     refine And.intro (.inr hy4) ?_
     refine yT 11 tab_ok rfl (by kernel_rfl) hy4 rfl (rfl) ?_
     refine yT 12 tab_ok rfl (by kernel_rfl) hy4 rfl (rfl) ?_
     refine yG 13 tab_ok rfl (by kernel_rfl) (.inr hy4) rfl rfl ?_
     refine y_one 14 (by kernel_rfl) (y_op 14 tab_ok rfl rfl rfl rfl ?_)
     have hy5:=hy4.alloc (hy4.size) (.cells #[Vi 0,Vi 0,.slice none 0 0,.slice none 0 0] 25)
     refine And.intro (.inr hy5) ?_
     have hs5:=hs4.box (T:=25) (k:=4) #[Vi 0,Vi 0,.slice none 0 0,.slice none 0 0] rfl
     have hz:=comb_end1 hs5
     obtain ⟨ge,ce,hve,-⟩:=hz.r.any (i:=1) (v:=ve) (e:=4) (s:=1) (n:=(foundFin F (joinF W n f1 f2 both)).length) (xs:=bools (foundFin F (joinF W n f1 f2 both))) rfl
     obtain ⟨gn,cn,hvn,-⟩:=hz.r.any (i:=2) (v:=vn) (e:=35) (s:=1) (n:=vs.length) (xs:=vs) rfl
     subst hve hvn
     refine y_one 15 (by kernel_rfl) (y_op0 15 tab_ok rfl rfl rfl ?_)
     refine And.intro rfl (And.intro rfl (And.intro (x_cells4 hz.r (i:=0) rfl) (And.intro (.inl (by kernel_rfl)) ?_)))
     refine yG 16 tab_ok rfl (by kernel_rfl) (.inl (by kernel_rfl)) rfl rfl ?_
     exact y_endx (_,.slice gn vs.length cn,.slice ge (foundFin F (joinF W n f1 f2 both)).length ce,vs) (by kernel_rfl) ⟨rfl,rfl,rfl,rfl,rfl,rfl,rfl,trivial⟩ ⟨hvs,hI,hD.join (hz.xput4 (i:=0) rfl _ _ _ _)⟩
    ·have hy4:=hy3.alloc (hy3.size) (.cells #[Vi 0,Vi 0,.slice none 0 0,.slice none 0 0] 25)
     refine And.intro (.inr hy4) ?_
     have hs4:=hs3.box (T:=25) (k:=4) #[Vi 0,Vi 0,.slice none 0 0,.slice none 0 0] rfl
     refine y_one 10 (by kernel_rfl) (y_op 10 tab_ok rfl rfl rfl rfl ?_)
     refine And.intro en_buildP ((bld hs4).mono ?_)
     rintro e u5 ⟨vn,ve,vs,rfl,-,hvs,hI,hs5⟩
     refine ⟨_,rfl,?_⟩
     have hy5:=hs5.b
     refine And.intro (.inr hy5) ?_
     have hz:=comb_end2 hs5
     obtain ⟨ge,ce,hve,-⟩:=hz.r.any (i:=1) (v:=ve) (e:=4) (s:=1) (n:=(foundFin F (joinF W n f1 f2 both)).length) (xs:=bools (foundFin F (joinF W n f1 f2 both))) rfl
     obtain ⟨gn,cn,hvn,-⟩:=hz.r.any (i:=2) (v:=vn) (e:=35) (s:=1) (n:=vs.length) (xs:=vs) rfl
     subst hve hvn
     refine yT 11 tab_ok rfl (by kernel_rfl) hy5 rfl (rfl) ?_
     refine yT 12 tab_ok rfl (by kernel_rfl) hy5 rfl (rfl) ?_
     refine yG 13 tab_ok rfl (by kernel_rfl) (.inr hy5) rfl rfl ?_
     refine y_one 15 (by kernel_rfl) (y_op0 15 tab_ok rfl rfl rfl ?_)
     refine And.intro rfl (And.intro rfl (And.intro (x_cells4 hz.r (i:=0) rfl) (And.intro (.inl (by kernel_rfl)) ?_)))
     refine yG 16 tab_ok rfl (by kernel_rfl) (.inl (by kernel_rfl)) rfl rfl ?_
     exact y_endx (_,.slice gn vs.length cn,.slice ge (foundFin F (joinF W n f1 f2 both)).length ce,vs) (by kernel_rfl) ⟨rfl,rfl,rfl,rfl,rfl,rfl,rfl,trivial⟩ ⟨hvs,hI,hD.join (hz.xput4 (i:=0) rfl _ _ _ _)⟩
   ·have hy3:=hy2.alloc (hy2.size) (.cells #[Vi 0,Vi 0,.slice none 0 0,.slice none 0 0] 25)
    refine And.intro (.inr hy3) ?_
    have hs3:=hs2.box (T:=25) (k:=4) #[Vi 0,Vi 0,.slice none 0 0,.slice none 0 0] rfl
    refine y_one 5 (by kernel_rfl) (y_op 5 tab_ok rfl rfl rfl rfl ?_)
    refine And.intro en_anowhere ((anowhere_any _).mono ?_)
    rintro e u4 ⟨rfl,k4⟩
    refine ⟨_,rfl,?_⟩
    have hy4:=below_trans hy3 k4
    refine And.intro (.inr hy4) ?_
    have hs4:=hs3.below k4
    refine y_one 10 (by kernel_rfl) (y_op 10 tab_ok rfl rfl rfl rfl ?_)
    refine And.intro en_buildP ((bld hs4).mono ?_)
    rintro e u5 ⟨vn,ve,vs,rfl,-,hvs,hI,hs5⟩
    refine ⟨_,rfl,?_⟩
    have hy5:=hs5.b
    refine And.intro (.inr hy5) ?_
    have hz:=comb_end2 hs5
    obtain ⟨ge,ce,hve,-⟩:=hz.r.any (i:=1) (v:=ve) (e:=4) (s:=1) (n:=(foundFin F (joinF W n f1 f2 both)).length) (xs:=bools (foundFin F (joinF W n f1 f2 both))) rfl
    obtain ⟨gn,cn,hvn,-⟩:=hz.r.any (i:=2) (v:=vn) (e:=35) (s:=1) (n:=vs.length) (xs:=vs) rfl
    subst hve hvn
    refine yT 11 tab_ok rfl (by kernel_rfl) hy5 rfl (rfl) ?_
    refine yT 12 tab_ok rfl (by kernel_rfl) hy5 rfl (rfl) ?_
    refine yG 13 tab_ok rfl (by kernel_rfl) (.inr hy5) rfl rfl ?_
    refine y_one 15 (by kernel_rfl) (y_op0 15 tab_ok rfl rfl rfl ?_)
    refine And.intro rfl (And.intro rfl (And.intro (x_cells4 hz.r (i:=0) rfl) (And.intro (.inl (by kernel_rfl)) ?_)))
    refine yG 16 tab_ok rfl (by kernel_rfl) (.inl (by kernel_rfl)) rfl rfl ?_
    exact y_endx (_,.slice gn vs.length cn,.slice ge (foundFin F (joinF W n f1 f2 both)).length ce,vs) (by kernel_rfl) ⟨rfl,rfl,rfl,rfl,rfl,rfl,rfl,trivial⟩ ⟨hvs,hI,hD.join (hz.xput4 (i:=0) rfl _ _ _ _)⟩
  ·have hy2:=hy1.alloc (hy1.size) (.cells #[Vi 0,Vi 0,.slice none 0 0,.slice none 0 0] 25)
   refine And.intro (.inr hy2) ?_
   have hs2:=hs1.box (T:=25) (k:=4) #[Vi 0,Vi 0,.slice none 0 0,.slice none 0 0] rfl
   refine y_one 4 (by kernel_rfl) (y_op 4 tab_ok rfl rfl rfl rfl ?_)
   refine And.intro hK.en ((hK.c (s1,s2) _).mono ?_)
   rintro e u3 ⟨rfl,k3⟩
   refine ⟨_,rfl,?_⟩
   have hy3:=below_trans hy2 k3
   refine And.intro (.inr hy3) ?_
   have hs3:=hs2.below k3
   refine y_one 5 (by kernel_rfl) (y_op 5 tab_ok rfl rfl rfl rfl ?_)
   refine And.intro en_anowhere ((anowhere_any _).mono ?_)
   rintro e u4 ⟨rfl,k4⟩
   refine ⟨_,rfl,?_⟩
   have hy4:=below_trans hy3 k4
   refine And.intro (.inr hy4) ?_
   have hs4:=hs3.below k4
   refine y_one 10 (by kernel_rfl) (y_op 10 tab_ok rfl rfl rfl rfl ?_)
   refine And.intro en_buildP ((bld hs4).mono ?_)
   rintro e u5 ⟨vn,ve,vs,rfl,-,hvs,hI,hs5⟩
   refine ⟨_,rfl,?_⟩
   have hy5:=hs5.b
   refine And.intro (.inr hy5) ?_
   have hz:=comb_end2 hs5
   obtain ⟨ge,ce,hve,-⟩:=hz.r.any (i:=1) (v:=ve) (e:=4) (s:=1) (n:=(foundFin F (joinF W n f1 f2 both)).length) (xs:=bools (foundFin F (joinF W n f1 f2 both))) rfl
   obtain ⟨gn,cn,hvn,-⟩:=hz.r.any (i:=2) (v:=vn) (e:=35) (s:=1) (n:=vs.length) (xs:=vs) rfl
   subst hve hvn
   refine yT 11 tab_ok rfl (by kernel_rfl) hy5 rfl (rfl) ?_
   refine yT 12 tab_ok rfl (by kernel_rfl) hy5 rfl (rfl) ?_
   refine yG 13 tab_ok rfl (by kernel_rfl) (.inr hy5) rfl rfl ?_
   refine y_one 15 (by kernel_rfl) (y_op0 15 tab_ok rfl rfl rfl ?_)
   refine And.intro rfl (And.intro rfl (And.intro (x_cells4 hz.r (i:=0) rfl) (And.intro (.inl (by kernel_rfl)) ?_)))
   refine yG 16 tab_ok rfl (by kernel_rfl) (.inl (by kernel_rfl)) rfl rfl ?_
   exact y_endx (_,.slice gn vs.length cn,.slice ge (foundFin F (joinF W n f1 f2 both)).length ce,vs) (by kernel_rfl) ⟨rfl,rfl,rfl,rfl,rfl,rfl,rfl,trivial⟩ ⟨hvs,hI,hD.join (hz.xput4 (i:=0) rfl _ _ _ _)⟩
 ·have hy1:=hy0.alloc (Nat.le_refl _) (.cells #[Vi 0,Vi 0,.slice none 0 0,.slice none 0 0] 25)
  refine And.intro (.inr hy1) ?_
  have hs1:=hs0.box (T:=25) (k:=4) #[Vi 0,Vi 0,.slice none 0 0,.slice none 0 0] rfl
  refine y_one 3 (by kernel_rfl) (y_op 3 tab_ok rfl rfl rfl rfl ?_)
  refine And.intro en_astarts ((astarts_any (Ln : Int) s1 (Ln : Int) s2 vn1 ve1 vn2 ve2 _).mono ?_)
  rintro e u2 ⟨rfl,k2⟩
  refine ⟨_,rfl,?_⟩
  have hy2:=below_trans hy1 k2
  refine And.intro (.inr hy2) ?_
  have hs2:=hs1.below k2
  refine y_one 4 (by kernel_rfl) (y_op 4 tab_ok rfl rfl rfl rfl ?_)
  refine And.intro hK.en ((hK.c (s1,s2) _).mono ?_)
  rintro e u3 ⟨rfl,k3⟩
  refine ⟨_,rfl,?_⟩
  have hy3:=below_trans hy2 k3
  refine And.intro (.inr hy3) ?_
  have hs3:=hs2.below k3
  refine y_one 5 (by kernel_rfl) (y_op 5 tab_ok rfl rfl rfl rfl ?_)
  refine And.intro en_anowhere ((anowhere_any _).mono ?_)
  rintro e u4 ⟨rfl,k4⟩
  refine ⟨_,rfl,?_⟩
  have hy4:=below_trans hy3 k4
  refine And.intro (.inr hy4) ?_
  have hs4:=hs3.below k4
  refine y_one 10 (by kernel_rfl) (y_op 10 tab_ok rfl rfl rfl rfl ?_)
  refine And.intro en_buildP ((bld hs4).mono ?_)
  rintro e u5 ⟨vn,ve,vs,rfl,-,hvs,hI,hs5⟩
  refine ⟨_,rfl,?_⟩
  have hy5:=hs5.b
  refine And.intro (.inr hy5) ?_
  have hz:=comb_end2 hs5
  obtain ⟨ge,ce,hve,-⟩:=hz.r.any (i:=1) (v:=ve) (e:=4) (s:=1) (n:=(foundFin F (joinF W n f1 f2 both)).length) (xs:=bools (foundFin F (joinF W n f1 f2 both))) rfl
  obtain ⟨gn,cn,hvn,-⟩:=hz.r.any (i:=2) (v:=vn) (e:=35) (s:=1) (n:=vs.length) (xs:=vs) rfl
  subst hve hvn
  refine yT 11 tab_ok rfl (by kernel_rfl) hy5 rfl (rfl) ?_
  refine yT 12 tab_ok rfl (by kernel_rfl) hy5 rfl (rfl) ?_
  refine yG 13 tab_ok rfl (by kernel_rfl) (.inr hy5) rfl rfl ?_
  refine y_one 15 (by kernel_rfl) (y_op0 15 tab_ok rfl rfl rfl ?_)
  refine And.intro rfl (And.intro rfl (And.intro (x_cells4 hz.r (i:=0) rfl) (And.intro (.inl (by kernel_rfl)) ?_)))
  refine yG 16 tab_ok rfl (by kernel_rfl) (.inl (by kernel_rfl)) rfl rfl ?_
  exact y_endx (_,.slice gn vs.length cn,.slice ge (foundFin F (joinF W n f1 f2 both)).length ce,vs) (by kernel_rfl) ⟨rfl,rfl,rfl,rfl,rfl,rfl,rfl,trivial⟩ ⟨hvs,hI,hD.join (hz.xput4 (i:=0) rfl _ _ _ _)⟩
end
end Jn
end Go.Proofs.YthcoppfiahnpoaaGreat
namespace Go.Proofs.YthcoppfiahnpoaaGreat
namespace Jn
open Go Sym
theorem en_aleast' : enters Tryz.prog 27 = true:=by kernel_rfl
def JoinC (both : Bool) (f : Nat) : Prop:=∀ (L1 s1 L2 s2 : Int) (vn1 ve1 vn2 ve2 : Value) (n1 n2 : List (List Int)) (f1 f2 : List Bool) (w : World),Ma w L1 s1 n1 f1 vn1 ve1 → Ma w L2 s2 n2 f2 vn2 ve2 → n1.length ≤ 50 → n2.length ≤ 50 →
 Calls Tryz.prog f #[.agg #[Vi L1,Vi s1,vn1,ve1],.agg #[Vi L2,Vi s2,vn2,ve2]] w fun e w'=>∃ (L' s' r : Int) (vn' ve' : Value) (vs : List Value) (n' : List (List Int)) (f' : List Bool),e = .returned (.tuple #[.agg #[Vi L',Vi s',vn',ve'],Vi r]) ∧ I64 L' ∧ I64 s' ∧ vs.length = n'.length ∧ n'.length ≤ 3000 ∧ (∀ l ∈ n',∀ x ∈ l,I64 x) ∧ Hold w.heap.size w w' (oB ve' f' :: nextR vn' vs n') ∧ JoinE both L1 s1 n1 f1 L2 s2 n2 f2 L' s' n' f' r
set_option maxHeartbeats 4000000 in
theorem combine_any {both : Bool} {fk fd : Nat} (hK : KeepC both fk) (hDc : DecC both fd) (L1 s1 L2 s2 : Int) (vn1 ve1 vn2 ve2 : Value) (n1 n2 : List (List Int)) (f1 f2 : List Bool) (w : World) (hm : Ma w L1 s1 n1 f1 vn1 ve1) (hm2 : Ma w L2 s2 n2 f2 vn2 ve2) (hl1 : n1.length ≤ 50) (hl2 : n2.length ≤ 50) :
  Calls Tryz.prog 22 #[.agg #[Vi L1,Vi s1,vn1,ve1],.agg #[Vi L2,Vi s2,vn2,ve2],.func (.func fk) #[] #[],.func (.func fd) #[] #[]] w fun e w'=>∃ (L' s' r : Int) (vn' ve' : Value) (vs : List Value) (n' : List (List Int)) (f' : List Bool),e = .returned (.tuple #[.agg #[Vi L',Vi s',vn',ve'],Vi r]) ∧ I64 L' ∧ I64 s' ∧ vs.length = n'.length ∧ n'.length ≤ 3000 ∧ (∀ l ∈ n',∀ x ∈ l,I64 x) ∧ Hold w.heap.size w w' (oB ve' f' :: nextR vn' vs n') ∧ JoinE both L1 s1 n1 f1 L2 s2 n2 f2 L' s' n' f' r:=by
 refine Sym.enter (args:=[.agg #[Vi L1,Vi s1,vn1,ve1],.agg #[Vi L2,Vi s2,vn2,ve2],.func (.func fk) #[] #[],.func (.func fd) #[] #[]]) Tryz.func22 rfl rfl rfl (fun a0 hS0=>?_)
 refine wp_seq (seq_cutx (α:=Nat × Nat × Nat × Nat × Nat) (fun x=>[(4,Vp x.1),(5,Vp x.2.1),(6,Vp x.2.2.1),(7,Vp x.2.2.2.1),(8,Vp x.2.2.2.2)]) (fun x w'=>Hold w.heap.size w w' [oX 25 x.2.2.2.2 4 [Vi 0,Vi 0,.slice none 0 0,.slice none 0 0],oX 52 x.2.2.2.1 1 [.func (.func fd) #[] #[]],oX 50 x.2.2.1 1 [.func (.func fk) #[] #[]],oX 25 x.2.1 4 [Vi L2,Vi s2,vn2,ve2],oX 25 x.1 4 [Vi L1,Vi s1,vn1,ve1]]) tab_ok hS0 ?_ (fun x a w1 hS h=>?_))
 ·refine zB rfl ?_
  refine zB rfl ?_
  refine zB rfl ?_
  refine zB rfl ?_
  refine zB rfl ?_
  repeat first|refine zP rfl ?_|refine zK rfl ?_
  exact o_nil ⟨(_,_,_,_,_),⟨rfl,rfl,rfl,rfl,rfl,trivial⟩,(((((Hold.start w).box (T:=25) (k:=4) #[Vi L1,Vi s1,vn1,ve1] rfl).box (T:=25) (k:=4) #[Vi L2,Vi s2,vn2,ve2] rfl).box (T:=50) (k:=1) #[.func (.func fk) #[] #[]] rfl).box (T:=52) (k:=1) #[.func (.func fd) #[] #[]] rfl).box (T:=25) (k:=4) #[Vi 0,Vi 0,.slice none 0 0,.slice none 0 0] rfl⟩
 obtain ⟨b0,b1,bk,bd,R⟩:=x
 dsimp only at hS h
 clear hS0
 refine wp_seq (wp_seq (seq_cut [(4,Vp b0),(5,Vp b1),(6,Vp bk),(7,Vp bd),(8,Vp R),(10,Vi (twoM L1 s1 n1 f1 L2 s2 n2 f2))] (fun w'=>RowKit.Below w1.heap.size w1 w') tab_ok hS ?_ (fun a w2 hS hw=>?_)))
 ·refine zA ([Vi L1,Vi s1,vn1,ve1]) rfl rfl (x4 h.r (i:=4) rfl) ?_
  refine zA ([Vi L2,Vi s2,vn2,ve2]) rfl rfl (x4 h.r (i:=3) rfl) ?_
  refine zF rfl (en_afit) (afit_any L1 s1 L2 s2 vn1 ve1 vn2 ve2 n1 n2 f1 f2 w1 (hm.keep h.b) (hm2.keep h.b)) ?_
  rintro e w2 ⟨rfl,k1⟩
  refine ⟨_,rfl,?_⟩
  repeat first|refine zP rfl ?_|refine zK rfl ?_
  exact o_nil ⟨⟨rfl,rfl,rfl,rfl,rfl,rfl,trivial⟩,k1⟩
 replace h:=h.below hw
 clear hw
 refine wp_seq (seq_cut [(4,Vp b0),(5,Vp b1),(6,Vp bk),(7,Vp bd),(8,Vp R),(10,Vi (twoM L1 s1 n1 f1 L2 s2 n2 f2)),(19,.bool (decide (twoM L1 s1 n1 f1 L2 s2 n2 f2 ≠ 0)))] (· = w2) tab_ok hS ?_ (fun a w3 hS hw=>?_))
 ·repeat first|refine zP rfl ?_|refine zK rfl ?_
  refine zC rfl (rfl) ?_
  exact o_nil ⟨⟨rfl,rfl,rfl,rfl,rfl,rfl,rfl,trivial⟩,rfl⟩
 subst hw
 refine cond hS rfl (fun hT=>?_) (fun hF=>wp_skip ?_)
 ·refine wp_seq (seq_cut [(8,Vp R),(9,Vi (twoM L1 s1 n1 f1 L2 s2 n2 f2))] (fun w'=>Hold w.heap.size w w' [oX 25 R 4 [Vi 0,Vi 0,.slice none 0 0,.slice none 0 0],oX 52 bd 1 [.func (.func fd) #[] #[]],oX 50 bk 1 [.func (.func fk) #[] #[]],oX 25 b1 4 [Vi L2,Vi s2,vn2,ve2],oX 25 b0 4 [Vi L1,Vi s1,vn1,ve1]]) tab_ok hS ?_ (fun a w4 hS h=>?_))
  ·repeat first|refine zP rfl ?_|refine zK rfl ?_
   refine o_step0 rfl rfl (And.intro rfl (And.intro rfl (And.intro (x_cells4 h.r (i:=0) rfl) ?_)))
   repeat first|refine zP rfl ?_|refine zK rfl ?_
   exact o_nil ⟨⟨rfl,rfl,trivial⟩,h.xput4 (i:=0) rfl _ _ _ _⟩
  have hfin:=(((h.nil 35 1).nil 4 1).perm (List.perm_append_comm (l₁:=[_,_]))).drop
  refine wp_ret ?_
  repeat (first | refine then_ret ?_ | refine block_ret ?_)
  refine retc2 tab_ok hS rfl rfl rfl rfl rfl (o:=0) (vs:=[Vi 0,Vi 0,.slice none 0 0,.slice none 0 0]) (x4 h.r (i:=0) rfl) rfl ⟨0,0,_,_,_,[],[],[],rfl,by unfold I64; omega,by unfold I64; omega,rfl,by simp,by simp,hfin,.inl ⟨of_decide_eq_true hT,rfl,rfl,rfl,rfl,rfl⟩⟩
 have htw:=Decidable.not_not.1 (of_decide_eq_false hF)
 obtain ⟨v1,v2,hLL⟩:=two_zero htw
 obtain ⟨hsh1,hL300,-⟩:=shape_of_valid v1
 obtain ⟨hsh2,-,-⟩:=shape_of_valid v2
 subst hLL
 obtain ⟨Ln,rfl⟩:=Int.eq_ofNat_of_zero_le hsh1.L0
 have hLI:=hm.L
 refine wp_seq (seq_cutx (α:=Int × Value × Value × List Value × List (List Int) × List Bool) (fun _=>[(4,Vp b0),(5,Vp b1),(6,Vp bk),(7,Vp bd),(8,Vp R)]) (fun v w'=>I64 v.1 ∧ v.2.2.2.1.length = v.2.2.2.2.1.length ∧ (∀ l ∈ v.2.2.2.2.1,∀ x ∈ l,I64 x) ∧ Canon Ln v.1 v.2.2.2.2.1 v.2.2.2.2.2 ∧ Alike Ln v.2.2.2.2.1 v.2.2.2.2.2 v.1 n1 f1 s1 ∧ Hold w.heap.size w w' ([oX 25 R 4 [Vi 0,Vi 0,.slice none 0 0,.slice none 0 0],oX 52 bd 1 [.func (.func fd) #[] #[]],oX 50 bk 1 [.func (.func fk) #[] #[]],oX 25 b1 4 [Vi Ln,Vi s2,vn2,ve2],oX 25 b0 4 [Vi Ln,Vi v.1,v.2.1,v.2.2.1]] ++ (oB v.2.2.1 v.2.2.2.2.2 :: nextR v.2.1 v.2.2.2.1 v.2.2.2.2.1))) tab_ok hS ?_ (fun v a w4 hS hw=>?_))
 ·refine zA ([Vi Ln,Vi s1,vn1,ve1]) rfl rfl (x4 h.r (i:=4) rfl) ?_
  refine zF rfl (en_aleast') (aleast_any (Ln : Int) s1 vn1 ve1 n1 f1 w3 (hm.keep h.b) v1 (by omega)) ?_
  rintro e w4 ⟨s',vn',ve',vs,n',f',rfl,hs',hvs,hI64,hH,hcan,hal⟩
  refine ⟨_,rfl,?_⟩
  obtain ⟨ge,ce,rfl,-⟩:=hH.r.any (i:=0) rfl
  obtain ⟨gn,cn,hvn,-⟩:=hH.r.any (i:=1) (v:=vn') (e:=35) (s:=1) (n:=vs.length) (xs:=vs) rfl
  subst hvn
  rw [List.append_nil] at hH
  have h9:=(h.join hH).perm List.perm_append_comm
  repeat first|refine zP rfl ?_|refine zK rfl ?_
  refine o_step0 rfl rfl (And.intro rfl (And.intro rfl (And.intro (x_cells4 h9.r (i:=4) rfl) ?_)))
  exact o_nil ⟨(s',.slice gn vs.length cn,.slice ge f'.length ce,vs,n',f'),⟨rfl,rfl,rfl,rfl,rfl,trivial⟩,hs',hvs,hI64,hcan,hal,h9.xput4 (i:=4) rfl _ _ _ _⟩
 obtain ⟨t1,vm1,vf1,vs1,m1,g1⟩:=v
 simp only at hw
 obtain ⟨ht1,hvs1,hi1,hc1,ha1,h⟩:=hw
 refine wp_seq (seq_cutx (α:=Int × Value × Value × List Value × List (List Int) × List Bool) (fun _=>[(4,Vp b0),(5,Vp b1),(6,Vp bk),(7,Vp bd),(8,Vp R)]) (fun v w'=>I64 v.1 ∧ v.2.2.2.1.length = v.2.2.2.2.1.length ∧ (∀ l ∈ v.2.2.2.2.1,∀ x ∈ l,I64 x) ∧ Canon Ln v.1 v.2.2.2.2.1 v.2.2.2.2.2 ∧ Alike Ln v.2.2.2.2.1 v.2.2.2.2.2 v.1 n2 f2 s2 ∧ Hold w.heap.size w w' ([oX 25 R 4 [Vi 0,Vi 0,.slice none 0 0,.slice none 0 0],oX 52 bd 1 [.func (.func fd) #[] #[]],oX 50 bk 1 [.func (.func fk) #[] #[]],oX 25 b1 4 [Vi Ln,Vi v.1,v.2.1,v.2.2.1],oX 25 b0 4 [Vi Ln,Vi t1,vm1,vf1]] ++ ((oB vf1 g1 :: nextR vm1 vs1 m1) ++ (oB v.2.2.1 v.2.2.2.2.2 :: nextR v.2.1 v.2.2.2.1 v.2.2.2.2.1)))) tab_ok hS ?_ (fun v a w5 hS hw=>?_))
 ·refine zA ([Vi Ln,Vi s2,vn2,ve2]) rfl rfl (x4 h.r (i:=3) rfl) ?_
  refine zF rfl (en_aleast') (aleast_any (Ln : Int) s2 vn2 ve2 n2 f2 w4 (hm2.keep h.b) v2 (by omega)) ?_
  rintro e w5 ⟨s',vn',ve',vs,n',f',rfl,hs',hvs,hI64,hH,hcan,hal⟩
  refine ⟨_,rfl,?_⟩
  obtain ⟨ge,ce,rfl,-⟩:=hH.r.any (i:=0) rfl
  obtain ⟨gn,cn,hvn,-⟩:=hH.r.any (i:=1) (v:=vn') (e:=35) (s:=1) (n:=vs.length) (xs:=vs) rfl
  subst hvn
  rw [List.append_nil] at hH
  have h9:=((h.join hH).perm List.perm_append_comm).cast (List.append_assoc _ _ _)
  repeat first|refine zP rfl ?_|refine zK rfl ?_
  refine o_step0 rfl rfl (And.intro rfl (And.intro rfl (And.intro (x_cells4 h9.r (i:=3) rfl) ?_)))
  exact o_nil ⟨(s',.slice gn vs.length cn,.slice ge f'.length ce,vs,n',f'),⟨rfl,rfl,rfl,rfl,rfl,trivial⟩,hs',hvs,hI64,hcan,hal,h9.xput4 (i:=3) rfl _ _ _ _⟩
 obtain ⟨t2,vm2,vf2,vs2,m2,g2⟩:=v
 simp only at hw
 obtain ⟨ht2,hvs2,hi2,hc2,ha2,h⟩:=hw
 have hk1:=canon_few hsh1 hc1 ha1
 have hk2:=canon_few hsh2 hc2 ha2
 obtain ⟨W,hW⟩ : ∃ W,W = m2.length + 1:=⟨_,rfl⟩
 obtain ⟨n,hn⟩ : ∃ n,n = (m1.length + 1) * W:=⟨_,rfl⟩
 have hn2 : n ≤ 2601:=by rw [hn,hW]; exact Nat.mul_le_mul (by omega : m1.length + 1 ≤ 51) (by omega : m2.length + 1 ≤ 51)
 have hPI : PairsI Ln W n t1 m1 g1 t2 m2 g2:=⟨hc1.shape,hc2.shape,hW,hn,by omega,by omega⟩
 obtain ⟨F,hF⟩ : ∃ F,foundM (cdP W (keepB both (t1,t2))) (joinN Ln W n m1 m2 both) Ln = F:=⟨_,rfl⟩
 refine wp_seq (seq_cut [(4,Vp b0),(5,Vp b1),(6,Vp bk),(7,Vp bd),(8,Vp R),(11,.func (.func 50) #[] #[Vp bk,Vp b0,Vp b1])] (· = w5) tab_ok hS ?_ (fun a w6 hS hw=>?_))
 ·repeat first|refine zP rfl ?_|refine zK rfl ?_
  exact o_nil ⟨⟨rfl,rfl,rfl,rfl,rfl,rfl,trivial⟩,rfl⟩
 subst hw
 refine wp_seq (seq_cut [(4,Vp b0),(5,Vp b1),(6,Vp bk),(7,Vp bd),(8,Vp R),(11,.func (.func 50) #[] #[Vp bk,Vp b0,Vp b1]),(12,.func (.func 51) #[] #[Vp bd,Vp b0,Vp b1])] (· = w6) tab_ok hS ?_ (fun a w7 hS hw=>?_))
 ·repeat first|refine zP rfl ?_|refine zK rfl ?_
  exact o_nil ⟨⟨rfl,rfl,rfl,rfl,rfl,rfl,rfl,trivial⟩,rfl⟩
 subst hw
 refine wp_seq (comb_r8 hK hDc h hvs1 hvs2 hi1 hi2 ht1 ht2 hPI (by omega) (by omega) hF (by rfl) hS ?_)
 rintro ⟨c,vn,ve,vs⟩ a w8 hS ⟨hvs,hI,h⟩
 dsimp only at hS hvs hI h
 have hx0 : inR W n (keepB both (t1,t2)):=hPI.keepR (hPI.mk' hc1.shape.s1 hc1.shape.s2 hc2.shape.s1 hc2.shape.s2)
 have hFo : Found (cdP W (keepB both (t1,t2))) (joinN Ln W n m1 m2 both) Ln F:=by
  rw [← hF]; exact foundM_found3 hPI.jshape (cdP_lt hx0).1 (by rw [joinN_len]; exact (cdP_lt hx0).2)
 obtain ⟨hjs,hja⟩:=hPI.join hFo
 have hcap:=hFo.inn.ok.cap
 rw [joinN_len] at hcap
 have hjv:=valid_of_shape hjs hL300 (by simp; omega)
 refine wp_seq (wp_seq (seq_cut [(8,Vp R),(13,Vp c),(49,.bool false)] (· = w8) tab_ok hS ?_ (fun a w9 hS hw=>?_)))
 ·repeat first|refine zP rfl ?_|refine zK rfl ?_
  refine zC rfl (decide_eq_false (by decide)) ?_
  exact o_nil ⟨⟨rfl,rfl,rfl,trivial⟩,rfl⟩
 subst hw
 refine cond hS rfl (fun hT=>by cases hT) (fun _=>wp_skip ?_)
 have hmJ:=ma_rows (L:=(Ln : Int)) (s:=(if F.rows.length = 0 then -1 else 0 : Int)) h.tail (by rw [List.length_map]; exact hvs) hI hLI (by unfold I64; split <;> omega)
 refine wp_seq (seq_cutx (α:=(Int × Value × Value × List Value × List (List Int) × List Bool) × List Ow) (fun _=>[(8,Vp R),(9,Vi 0)]) (fun v w'=>I64 v.1.1 ∧ v.1.2.2.2.1.length = v.1.2.2.2.2.1.length ∧ (∀ l ∈ v.1.2.2.2.2.1,∀ x ∈ l,I64 x) ∧ v.1.2.2.2.2.1.length ≤ 3000 ∧ Canon Ln v.1.1 v.1.2.2.2.2.1 v.1.2.2.2.2.2 ∧ (∀ u,Word Ln u → accM v.1.2.2.2.2.1 v.1.2.2.2.2.2 v.1.1 u = joinB both (accM n1 f1 s1 u) (accM n2 f2 s2 u)) ∧ Hold w.heap.size w w' ((oX 25 R 4 [Vi Ln,Vi v.1.1,v.1.2.1,v.1.2.2.1] :: v.2) ++ (oB v.1.2.2.1 v.1.2.2.2.2.2 :: nextR v.1.2.1 v.1.2.2.2.1 v.1.2.2.2.2.1))) tab_ok hS ?_ (fun v a w10 hS hw=>?_))
 ·refine zA ([Vi Ln,Vi (if F.rows.length = 0 then -1 else 0 : Int),vn,ve]) rfl rfl (x4 h.r (i:=0) rfl) ?_
  refine zF rfl (en_aleast') (aleast_any (Ln : Int) _ vn ve _ _ w9 hmJ hjv (by simp; omega)) ?_
  rintro e w10 ⟨s',vn',ve',vs',n',f',rfl,hs',hvs',hI64,hH,hcan,hal⟩
  refine ⟨_,rfl,?_⟩
  obtain ⟨ge,ce,rfl,-⟩:=hH.r.any (i:=0) rfl
  obtain ⟨gn,cn,hvn,-⟩:=hH.r.any (i:=1) (v:=vn') (e:=35) (s:=1) (n:=vs'.length) (xs:=vs') rfl
  subst hvn
  rw [List.append_nil] at hH
  have h9:=(h.drop.join hH).perm List.perm_append_comm
  repeat first|refine zP rfl ?_|refine zK rfl ?_
  refine o_step0 rfl rfl (And.intro rfl (And.intro rfl (And.intro (x_cells4 h9.r (i:=0) rfl) ?_)))
  repeat first|refine zP rfl ?_|refine zK rfl ?_
  exact o_nil ⟨((s',.slice gn vs'.length cn,.slice ge f'.length ce,vs',n',f'),_),⟨rfl,rfl,trivial⟩,hs',hvs',hI64,(by have:=canon_few hjs hcan hal; rw [List.length_map] at this; show n'.length ≤ 3000; omega),hcan,fun u hu=>by rw [hal u hu,hja u hu,ha1 u hu,ha2 u hu],h9.xput4 (i:=0) rfl _ _ _ _⟩
 obtain ⟨⟨s',vn',ve',vs',n',f'⟩,rs⟩:=v
 simp only at hw
 obtain ⟨hs',hvs',hI64,hfew,hcan,hacc,h⟩:=hw
 refine wp_ret ?_
 repeat (first | refine then_ret ?_ | refine block_ret ?_)
 refine retc2 tab_ok hS rfl rfl rfl rfl rfl (o:=0) (vs:=[Vi Ln,Vi s',vn',ve']) (x4 h.r (i:=0) rfl) rfl ⟨Ln,s',0,vn',ve',vs',n',f',rfl,hLI,hs',hvs',hfew,hI64,h.drop,.inr ⟨htw,rfl,rfl,hcan,hacc⟩⟩
set_option maxHeartbeats 1000000 in
theorem aBoth_c : JoinC true 8:=fun L1 s1 L2 s2 vn1 ve1 vn2 ve2 n1 n2 f1 f2 w hm hm2 hl1 hl2=>by
 refine Sym.enter (args:=[.agg #[Vi L1,Vi s1,vn1,ve1],.agg #[Vi L2,Vi s2,vn2,ve2]]) Tryz.func8 rfl rfl rfl (fun a0 hS0=>?_)
 refine wp_seq (seq_cutx (α:=Nat × Nat × Nat) (fun x=>[(2,Vp x.1),(3,Vp x.2.1),(4,Vp x.2.2)]) (fun x w'=>Hold w.heap.size w w' [oX 25 x.2.2 4 [Vi 0,Vi 0,.slice none 0 0,.slice none 0 0],oX 25 x.2.1 4 [Vi L2,Vi s2,vn2,ve2],oX 25 x.1 4 [Vi L1,Vi s1,vn1,ve1]]) tab_ok hS0 ?_ (fun x a w1 hS h=>?_))
 ·refine zB rfl ?_
  refine zB rfl ?_
  refine zB rfl ?_
  repeat first|refine zP rfl ?_|refine zK rfl ?_
  exact o_nil ⟨(_,_,_),⟨rfl,rfl,rfl,trivial⟩,(((Hold.start w).box (T:=25) (k:=4) #[Vi L1,Vi s1,vn1,ve1] rfl).box (T:=25) (k:=4) #[Vi L2,Vi s2,vn2,ve2] rfl).box (T:=25) (k:=4) #[Vi 0,Vi 0,.slice none 0 0,.slice none 0 0] rfl⟩
 obtain ⟨b0,b1,R⟩:=x
 dsimp only at hS h
 clear hS0
 refine wp_seq (seq_cut [(2,Vp b0),(3,Vp b1),(4,Vp R),(6,.func (.func 20) #[] #[])] (· = w1) tab_ok hS ?_ (fun a w2 hS hw=>?_))
 ·repeat first|refine zP rfl ?_|refine zK rfl ?_
  exact o_nil ⟨⟨rfl,rfl,rfl,rfl,trivial⟩,rfl⟩
 subst hw
 refine wp_seq (seq_cutx (α:=(Int × Int × Int × Value × Value × List Value × List (List Int) × List Bool) × List Ow) (fun v=>[(4,Vp R),(5,Vi v.1.2.2.1)]) (fun v w'=>I64 v.1.1 ∧ I64 v.1.2.1 ∧ v.1.2.2.2.2.2.1.length = v.1.2.2.2.2.2.2.1.length ∧ v.1.2.2.2.2.2.2.1.length ≤ 3000 ∧ (∀ l ∈ v.1.2.2.2.2.2.2.1,∀ x ∈ l,I64 x) ∧ JoinE true L1 s1 n1 f1 L2 s2 n2 f2 v.1.1 v.1.2.1 v.1.2.2.2.2.2.2.1 v.1.2.2.2.2.2.2.2 v.1.2.2.1 ∧ Hold w.heap.size w w' ((oX 25 R 4 [Vi v.1.1,Vi v.1.2.1,v.1.2.2.2.1,v.1.2.2.2.2.1] :: v.2) ++ (oB v.1.2.2.2.2.1 v.1.2.2.2.2.2.2.2 :: nextR v.1.2.2.2.1 v.1.2.2.2.2.2.1 v.1.2.2.2.2.2.2.1))) tab_ok hS ?_ (fun v a w3 hS hw=>?_))
 ·refine zA ([Vi L1,Vi s1,vn1,ve1]) rfl rfl (x4 h.r (i:=2) rfl) ?_
  refine zA ([Vi L2,Vi s2,vn2,ve2]) rfl rfl (x4 h.r (i:=1) rfl) ?_
  repeat first|refine zP rfl ?_|refine zK rfl ?_
  refine zF rfl (en_acombine) (combine_any both1 both2 L1 s1 L2 s2 vn1 ve1 vn2 ve2 n1 n2 f1 f2 w2 (hm.keep h.b) (hm2.keep h.b) hl1 hl2) ?_
  rintro e w3 ⟨L',s',r,vn',ve',vs,n',f',rfl,hL',hs',hvs,hfew,hI64,hH,hJ⟩
  refine ⟨_,rfl,?_⟩
  obtain ⟨ge,ce,rfl,-⟩:=hH.r.any (i:=0) rfl
  obtain ⟨gn,cn,hvn,-⟩:=hH.r.any (i:=1) (v:=vn') (e:=35) (s:=1) (n:=vs.length) (xs:=vs) rfl
  subst hvn
  have h9:=(h.join hH).perm List.perm_append_comm
  repeat first|refine zP rfl ?_|refine zK rfl ?_
  refine o_step0 rfl rfl (And.intro rfl (And.intro rfl (And.intro (x_cells4 h9.r (i:=0) rfl) ?_)))
  repeat first|refine zP rfl ?_|refine zK rfl ?_
  exact o_nil ⟨((L',s',r,.slice gn vs.length cn,.slice ge f'.length ce,vs,n',f'),_),⟨rfl,rfl,trivial⟩,hL',hs',hvs,hfew,hI64,hJ,h9.xput4 (i:=0) rfl _ _ _ _⟩
 obtain ⟨⟨L',s',r,vn',ve',vs,n',f'⟩,rs⟩:=v
 simp only at hS hw
 obtain ⟨hL',hs',hvs,hfew,hI64,hJ,h⟩:=hw
 refine wp_ret ?_
 repeat (first | refine then_ret ?_ | refine block_ret ?_)
 refine retc2 tab_ok hS rfl rfl rfl rfl rfl (o:=0) (vs:=[Vi L',Vi s',vn',ve']) (x4 h.r (i:=0) rfl) rfl ⟨L',s',r,vn',ve',vs,n',f',rfl,hL',hs',hvs,hfew,hI64,h.drop,hJ⟩
set_option maxHeartbeats 1000000 in
theorem aEither_c : JoinC false 10:=fun L1 s1 L2 s2 vn1 ve1 vn2 ve2 n1 n2 f1 f2 w hm hm2 hl1 hl2=>by
 refine Sym.enter (args:=[.agg #[Vi L1,Vi s1,vn1,ve1],.agg #[Vi L2,Vi s2,vn2,ve2]]) Tryz.func10 rfl rfl rfl (fun a0 hS0=>?_)
 refine wp_seq (seq_cutx (α:=Nat × Nat × Nat) (fun x=>[(2,Vp x.1),(3,Vp x.2.1),(4,Vp x.2.2)]) (fun x w'=>Hold w.heap.size w w' [oX 25 x.2.2 4 [Vi 0,Vi 0,.slice none 0 0,.slice none 0 0],oX 25 x.2.1 4 [Vi L2,Vi s2,vn2,ve2],oX 25 x.1 4 [Vi L1,Vi s1,vn1,ve1]]) tab_ok hS0 ?_ (fun x a w1 hS h=>?_))
 ·refine zB rfl ?_
  refine zB rfl ?_
  refine zB rfl ?_
  repeat first|refine zP rfl ?_|refine zK rfl ?_
  exact o_nil ⟨(_,_,_),⟨rfl,rfl,rfl,trivial⟩,(((Hold.start w).box (T:=25) (k:=4) #[Vi L1,Vi s1,vn1,ve1] rfl).box (T:=25) (k:=4) #[Vi L2,Vi s2,vn2,ve2] rfl).box (T:=25) (k:=4) #[Vi 0,Vi 0,.slice none 0 0,.slice none 0 0] rfl⟩
 obtain ⟨b0,b1,R⟩:=x
 dsimp only at hS h
 clear hS0
 refine wp_seq (seq_cut [(2,Vp b0),(3,Vp b1),(4,Vp R),(6,.func (.func 24) #[] #[])] (· = w1) tab_ok hS ?_ (fun a w2 hS hw=>?_))
 ·repeat first|refine zP rfl ?_|refine zK rfl ?_
  exact o_nil ⟨⟨rfl,rfl,rfl,rfl,trivial⟩,rfl⟩
 subst hw
 refine wp_seq (seq_cutx (α:=(Int × Int × Int × Value × Value × List Value × List (List Int) × List Bool) × List Ow) (fun v=>[(4,Vp R),(5,Vi v.1.2.2.1)]) (fun v w'=>I64 v.1.1 ∧ I64 v.1.2.1 ∧ v.1.2.2.2.2.2.1.length = v.1.2.2.2.2.2.2.1.length ∧ v.1.2.2.2.2.2.2.1.length ≤ 3000 ∧ (∀ l ∈ v.1.2.2.2.2.2.2.1,∀ x ∈ l,I64 x) ∧ JoinE false L1 s1 n1 f1 L2 s2 n2 f2 v.1.1 v.1.2.1 v.1.2.2.2.2.2.2.1 v.1.2.2.2.2.2.2.2 v.1.2.2.1 ∧ Hold w.heap.size w w' ((oX 25 R 4 [Vi v.1.1,Vi v.1.2.1,v.1.2.2.2.1,v.1.2.2.2.2.1] :: v.2) ++ (oB v.1.2.2.2.2.1 v.1.2.2.2.2.2.2.2 :: nextR v.1.2.2.2.1 v.1.2.2.2.2.2.1 v.1.2.2.2.2.2.2.1))) tab_ok hS ?_ (fun v a w3 hS hw=>?_))
 ·refine zA ([Vi L1,Vi s1,vn1,ve1]) rfl rfl (x4 h.r (i:=2) rfl) ?_
  refine zA ([Vi L2,Vi s2,vn2,ve2]) rfl rfl (x4 h.r (i:=1) rfl) ?_
  repeat first|refine zP rfl ?_|refine zK rfl ?_
  refine zF rfl (en_acombine) (combine_any either1 either2 L1 s1 L2 s2 vn1 ve1 vn2 ve2 n1 n2 f1 f2 w2 (hm.keep h.b) (hm2.keep h.b) hl1 hl2) ?_
  rintro e w3 ⟨L',s',r,vn',ve',vs,n',f',rfl,hL',hs',hvs,hfew,hI64,hH,hJ⟩
  refine ⟨_,rfl,?_⟩
  obtain ⟨ge,ce,rfl,-⟩:=hH.r.any (i:=0) rfl
  obtain ⟨gn,cn,hvn,-⟩:=hH.r.any (i:=1) (v:=vn') (e:=35) (s:=1) (n:=vs.length) (xs:=vs) rfl
  subst hvn
  have h9:=(h.join hH).perm List.perm_append_comm
  repeat first|refine zP rfl ?_|refine zK rfl ?_
  refine o_step0 rfl rfl (And.intro rfl (And.intro rfl (And.intro (x_cells4 h9.r (i:=0) rfl) ?_)))
  repeat first|refine zP rfl ?_|refine zK rfl ?_
  exact o_nil ⟨((L',s',r,.slice gn vs.length cn,.slice ge f'.length ce,vs,n',f'),_),⟨rfl,rfl,trivial⟩,hL',hs',hvs,hfew,hI64,hJ,h9.xput4 (i:=0) rfl _ _ _ _⟩
 obtain ⟨⟨L',s',r,vn',ve',vs,n',f'⟩,rs⟩:=v
 simp only at hS hw
 obtain ⟨hL',hs',hvs,hfew,hI64,hJ,h⟩:=hw
 refine wp_ret ?_
 repeat (first | refine then_ret ?_ | refine block_ret ?_)
 refine retc2 tab_ok hS rfl rfl rfl rfl rfl (o:=0) (vs:=[Vi L',Vi s',vn',ve']) (x4 h.r (i:=0) rfl) rfl ⟨L',s',r,vn',ve',vs,n',f',rfl,hL',hs',hvs,hfew,hI64,h.drop,hJ⟩
end Jn
end Go.Proofs.YthcoppfiahnpoaaGreat
namespace Go.Proofs.YthcoppfiahnpoaaGreat
end Go.Proofs.YthcoppfiahnpoaaGreat
namespace Go.Proofs.YthcoppfiahnpoaaGreat
open Go Sym
end Go.Proofs.YthcoppfiahnpoaaGreat
namespace Go.Proofs.YthcoppfiahnpoaaGreat
open Go Sym
end Go.Proofs.YthcoppfiahnpoaaGreat
namespace Go.Proofs.YthcoppfiahnpoaaGreat
open Go Sym
section
variable {w w' : World} {g q T T' k k' i j : Nat} {v : Value}
end
section
variable {base top : Nat} {w w' : World} {n L q i k : Nat} {vn ve v : Value} {next : List (List Int)} {fin : List Bool}
theorem OwnM.far (h : OwnM base w next fin vn ve) {row : Option Nat} (hg : w.grownBy w' row) (hr : ∀ k,row = some k → k < base) : OwnM base w' next fin vn ve:=by
 have key : ∀ {e s m : Nat} {u : Value} {xs : List Value},w.ownsRow base e s u m xs → w'.ownsRow base e s u m xs:=fun {e s m u xs} ho=>ho.kept hg (by
  cases hu : u.ownBlock with
  | none=>exact .inl rfl
  | some b=>
    refine .inr fun e2=>?_
    have h1:=(ho.lt b hu).1
    have h2:=hr b e2.symm
    omega)
 obtain ⟨us,hl,hn,hu⟩:=h.n
 exact ⟨key h.e,us,hl,key hn,fun j hj=>by
  obtain ⟨u,u1,u2,u3⟩:=hu j hj
  exact ⟨u,u1,key u2,u3⟩⟩
theorem OwnM.below (h : OwnM base w next fin vn ve) (hb : RowKit.Below w.heap.size w w') : OwnM base w' next fin vn ve:=h.far (grown_below hb) (fun k e=>by cases e)
theorem OwnM.mono {base' : Nat} (h : OwnM base w next fin vn ve) (hb : base' ≤ base) : OwnM base' w next fin vn ve:=by
 obtain ⟨us,hl,hn,hu⟩:=h.n
 exact ⟨own_mono h.e hb,us,hl,own_mono hn hb,fun j hj=>by
  obtain ⟨u,u1,u2,u3⟩:=hu j hj
  exact ⟨u,u1,own_mono u2 hb,u3⟩⟩
theorem OwnM.put (h : OwnM base w next fin vn ve) {b : Nat} {vs : List Value} (ho : OwnB w b 25 vs) (us : List Value) : OwnM base (w.setCells b 0 us) next fin vn ve:=by
 have hg:=grown_sets b us 0 w
 have key : ∀ {e s m : Nat} {u : Value} {xs : List Value},w.ownsRow base e s u m xs → e ≠ 25 → (w.setCells b 0 us).ownsRow base e s u m xs:=fun {e s m u xs} h1 he=>h1.kept hg (.inr fun e2=>own_neB h1 ho he e2.symm)
 obtain ⟨us',hl,hn,hu⟩:=h.n
 exact ⟨key h.e (by decide),us',hl,key hn (by decide),fun j hj=>by
  obtain ⟨u,u1,u2,u3⟩:=hu j hj
  exact ⟨u,u1,key u2 (by decide),u3⟩⟩
theorem hold_ownM {w0 : World} {vs : List Value} (h : Hold base w0 w (oB ve fin :: nextR vn vs next)) (hl : vs.length = next.length) (hI : ∀ l ∈ next,∀ x ∈ l,I64 x) : OwnM base w next fin vn ve:=by
 refine ⟨h.r.1 0 _ rfl,vs,hl,by have:=h.r.1 1 _ rfl; rw [← hl]; exact this,fun j hj=>?_⟩
 have hj' : j < vs.length:=by omega
 refine ⟨vs[j],List.getElem?_eq_getElem hj',?_,hI _ (List.getElem_mem hj)⟩
 have:=h.r.1 (j + 2) (oI vs[j] next[j]) (by
  show (List.zipWith (fun v l=>oI v l) vs next)[j]? = _
  rw [List.getElem?_zipWith,List.getElem?_eq_getElem hj',List.getElem?_eq_getElem hj])
 exact this
end
section
variable {w0 w w' : World} {t Ln q k : Nat} {bs : List (Nat × List Value)} {ss : List (Nat × Nat × Value × Value)} {ms : List (Nat × List (List Int) × List Bool × Value × Value)}
theorem own_ownB {w : World} {base T b : Nat} {vs : List Value} (h : w.ownsRow base T 4 (Vs b 1 1) 1 vs) : OwnB w b T vs:=by
 rcases h.2 with ⟨h1,_⟩ | ⟨g,cap,cur,h1,_,h3,_,_,h6,h7⟩
 ·cases h1
 ·simp only [Value.slice.injEq,Option.some.injEq,Addr.mk.injEq,and_true,true_and] at h1
  obtain ⟨rfl,rfl⟩:=h1
  unfold OwnB
  rw [h3]
  have e : cur.toList = vs:=by
   rw [← h7,List.take_of_length_le (by simp [h6])]
  rw [← e]
end
end Go.Proofs.YthcoppfiahnpoaaGreat
namespace Go.Proofs.YthcoppfiahnpoaaGreat
open Go Sym
theorem own_sl {base : Nat} {w : World} {next : List (List Int)} {fin : List Bool} {vn ve : Value} (h : OwnM base w next fin vn ve) : ∃ a c,vn = .slice a next.length c:=by
 obtain ⟨us,hl,hn,hu⟩:=h.n
 rcases hn.2 with ⟨h1,h2⟩ | ⟨g,cap,cur,h1,_⟩
 ·exact ⟨none,0,by rw [h1,h2]⟩
 ·exact ⟨_,_,h1⟩
theorem own_se {base : Nat} {w : World} {next : List (List Int)} {fin : List Bool} {vn ve : Value} (h : OwnM base w next fin vn ve) : ∃ a c,ve = .slice a fin.length c:=by
 rcases h.e.2 with ⟨h1,h2⟩ | ⟨g,cap,cur,h1,_⟩
 ·exact ⟨none,0,by rw [h1,h2]⟩
 ·exact ⟨_,_,h1⟩
end Go.Proofs.YthcoppfiahnpoaaGreat
