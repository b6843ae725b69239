/- Texts put together. -/
import Derived.Test.YtbkjhfmehemgpaaGreatFb24
import Derived.Test.YtbkjhfmehemgpaaGreatFb16
import Derived.Test.YtbkjhfmehemgpaaGreatFb27
namespace Go.Proofs.YtbkjhfmehemgpaaGreat
set_option maxRecDepth 20000
set_option maxHeartbeats 16000000
open Go.ChangeShapes Go.WideShapes Go.ChangeAt Go.RowKit
set_option linter.unusedVariables false
set_option linter.unusedSimpArgs false
section
open Go.ChangeShapes Go.WideShapes Go.ChangeAt Go.RowKit Go.Shelf Go.Lib Go.Sort
def cdC (A:Nat→Option Addr)(C:Nat→Nat)(L:Nat→Bm)(c:Cd):List Value:=[.slice (A c.p) (L c.p).t.length (C c.p),.int .i64 c.s,.bool c.f,.int .i64 (c.p:Nat),.int .i64 c.k]
theorem cdC_len (A:Nat→Option Addr)(C:Nat→Nat)(L:Nat→Bm)(c:Cd):(cdC A C L c).length=5:=rfl
def cdF (A:Nat→Option Addr)(C:Nat→Nat)(L:Nat→Bm)(cs:List Cd)(r:Nat):List Value:=cdC A C L (cs.getD r c0)
theorem list_range {α:Type}(xs:List α)(d:α):xs=(List.range xs.length).map fun i=>xs.getD i d:=by
 apply List.ext_getElem
 ·simp
 ·intro i h1 h2
  simp[List.getD,h1]
theorem cds_flat (A:Nat→Option Addr)(C:Nat→Nat)(L:Nat→Bm)(cs:List Cd):cs.flatMap (cdC A C L)=flat (cdF A C L cs) cs.length:=by
 conv=>lhs;rw[list_range cs c0]
 unfold flat cdF
 rw[List.flatMap_map]
theorem cds_one (A:Nat→Option Addr)(C:Nat→Nat)(L:Nat→Bm)(c:Cd):[c].flatMap (cdC A C L)=cdC A C L c:=by simp
theorem cdC_cell (A:Nat→Option Addr)(C:Nat→Nat)(L:Nat→Bm)(c:Cd):∀ u∈cdC A C L c,u.oneCell'=true:=by
 intro u hu
 simp only[cdC,List.mem_cons,List.not_mem_nil,or_false] at hu
 rcases hu with rfl|rfl|rfl|rfl|rfl<;>rfl
theorem nodup_le:∀ (n:Nat) (l:List Nat),l.Nodup→(∀ x∈l,x<n)→l.length≤n
 | 0,l,_,h=>by
  cases l with
  | nil=>simp
  | cons x l=>exact absurd (h x (by simp)) (by omega)
 | n+1,l,hd,h=>by
  by_cases hn:n∈l
  ·have h1:=nodup_le n (l.erase n) (hd.erase n) (fun x hx=>by
    have:=(List.Nodup.mem_erase_iff hd).1 hx
    have:=h x this.2
    omega)
   rw[List.length_erase_of_mem hn] at h1
   omega
  ·have h1:=nodup_le n l hd (fun x hx=>by
    have:=h x hx
    have:x≠n:=fun e=>hn (e ▸ hx)
    omega)
   omega
theorem nodup_perm:∀ (n:Nat) (l:List Nat),l.Nodup→(∀ x∈l,x<n)→l.length=n→l.Perm (List.range n)
 | 0,l,_,h,hl=>by
  obtain rfl:=List.eq_nil_of_length_eq_zero hl
  exact List.Perm.refl _
 | n+1,l,hd,h,hl=>by
  have hn:n∈l:=by
   apply Classical.byContradiction
   intro hn
   have h1:=nodup_le n l hd (fun x hx=>by
    have:=h x hx
    have:x≠n:=fun e=>hn (e ▸ hx)
    omega)
   omega
  have h1:=nodup_perm n (l.erase n) (hd.erase n) (fun x hx=>by
    have:=(List.Nodup.mem_erase_iff hd).1 hx
    have:=h x this.2
    omega) (by rw[List.length_erase_of_mem hn];omega)
  rw[List.range_succ]
  exact (List.perm_cons_erase hn).trans ((h1.cons n).trans (List.perm_append_singleton n _).symm)
theorem range_at {n i:Nat}(h:i<n):(Array.range n)[i]! = i:=by
 rw[getElem!_pos _ i (by simpa using h)]
 simp
def scAt (cs:List Cd)(i:Nat):Int:=(cs.getD i c0).s
theorem sorted_places (cs:List Cd)(dF:Array Nat)(m:Mv 0 cs.length (Array.range cs.length) dF)(s:Srt (scAt cs) dF 0 cs.length):∀ i,i<cs.length→dF[i]! = (places (bescoresZ cs)).getD i 0:=by
 have hs:dF.size=cs.length:=by rw[m.size];simp
 have hl:∀ i,i<cs.length→dF[i]! < cs.length:=fun i hi=>by
  obtain⟨y,_,hy,e⟩:=m.from_ i (Nat.zero_le _) hi
  rw[e,range_at hy]
  exact hy
 have hx:(bescoresZ cs).length=cs.length:=by simp[bescoresZ]
 have ha:∀ i j,i<j→j<cs.length→ahead (bescoresZ cs) dF[i]! dF[j]! = true:=fun i j hij hj=>by
  have b:=s i j (Nat.zero_le _) hij hj
  rw[ahead_iff,scores_at cs (hl i (by omega)),scores_at cs (hl j hj)]
  exact b
 have hg:∀ i (h:i<dF.toList.length),dF.toList[i]=dF[i]!:=fun i h=>by
  rw[getElem!_pos _ i (by simpa using h),Array.getElem_toList]
 have O:Ordered (bescoresZ cs) cs.length dF.toList:=by
  have pw:dF.toList.Pairwise fun i j=>ahead (bescoresZ cs) i j=true:=by
   rw[List.pairwise_iff_getElem]
   intro i j hi hj hij
   rw[hg,hg]
   exact ha i j hij (by rw[←hs];simpa using hj)
  refine⟨nodup_perm _ _ (pw.imp fun h=>?_) (fun x hx=>?_) (by simpa using hs),pw⟩
  ·intro e
   subst e
   rw[ahead_irrefl] at h
   cases h
  ·obtain⟨i,hi,rfl⟩:=List.getElem_of_mem hx
   rw[hg]
   exact hl i (by rw[←hs];simpa using hi)
 have P:=places_ordered (bescoresZ cs)
 rw[hx] at P
 intro i hi
 have r:=O.rank hi
 have e:dF.toList.getD i 0=dF[i]!:=by
  have h:i<dF.toList.length:=by simpa [hs] using hi
  rw[List.getD_eq_getElem?_getD,List.getElem?_eq_getElem h,hg]
  rfl
 rw[e] at r
 exact ((P.rank_iff (hl i hi) hi).1 r).symm
def CdAt (w:World)(x:Addr)(n:Nat)(A:Nat→Option Addr)(C:Nat→Nat)(L:Nat→Bm)(G:Nat→Cd):Prop :=
 ∀ r,r<n→∀ f u,(cdC A C L (G r))[f]? = some u→w.cell? ((x.add (r*5)).add f)=some u
theorem CdAt.carry {w w':World}{x:Addr}{n:Nat}{A:Nat→Option Addr}{C:Nat→Nat}{L:Nat→Bm}{G:Nat→Cd}(h:CdAt w x n A C L G)(hc:∀ p v,p.block=x.block→w.cell? p=some v→w'.cell? p=some v):CdAt w' x n A C L G :=
 fun r hr f u hu=>hc _ _ (by simp only[Addr.add];split<;>(try split)<;>rfl) (h r hr f u hu)
theorem CdAt.at5 {w:World}{x:Addr}{n:Nat}{A:Nat→Option Addr}{C:Nat→Nat}{L:Nat→Bm}{G:Nat→Cd}(h:CdAt w x n A C L G){r:Nat}(hr:r<n) :
  ∃ y,x.add (r*5)=y∧w.cell? y=some (.slice (A (G r).p) (L (G r).p).t.length (C (G r).p))∧w.cell? ⟨y.block,y.off+1,none⟩=some (.int .i64 (G r).s)∧w.cell? ⟨y.block,y.off+2,none⟩=some (.bool (G r).f)∧w.cell? ⟨y.block,y.off+3,none⟩=some (.int .i64 ((G r).p:Nat))∧w.cell? ⟨y.block,y.off+4,none⟩=some (.int .i64 (G r).k):=by
 have d:=h r hr
 obtain⟨y,ey⟩:∃ y,x.add (r*5)=y:=⟨_,rfl⟩
 rw[ey] at d
 exact⟨y,ey,d 0 _ rfl,d 1 _ rfl,d 2 _ rfl,d 3 _ rfl,d 4 _ rfl⟩
theorem holdsK_of {w:World}{B:Nat}{n g cap:Nat}{F:Nat→List Value}(hF:∀ r,(F r).length=5)(h:w.ownsRow B 164 5 (.slice (some ⟨g,0,none⟩) n cap) n (flat F n)):HoldsK F 5 w g 0 (Array.range n):=by
 intro t ht
 have ht':t<n*5:=by simpa using ht
 have hr:t/5<n:=by omega
 have hf:t%5<5:=Nat.mod_lt _ (by decide)
 have e:(flatK F 5 (Array.range n))[t]! = (F (t/5))[t%5]!:=by
  rw[get_flatK _ _ _ _ (by simpa using ht'),range_at hr]
 have hu:(F (t/5))[t%5]? = some (F (t/5))[t%5]!:=by
  rw[getElem!_pos _ _ (by rw[hF];exact hf)]
  exact List.getElem?_eq_getElem _
 refine⟨?_,?_⟩
 ·have c:=h.cells (g:=g) rfl t _ (by
   have:=flat_at hF hr hf
   rw[show t/5*5+t%5=t by omega] at this
   exact this.trans hu)
  rw[e,Nat.zero_add]
  cases t with
  | zero=>simpa [Addr.add] using c
  | succ t=>simpa [Addr.add] using c
 ·rcases h.2 with⟨h1,_⟩|⟨g',cap',cur,h1,_,hb,_⟩
  ·cases h1
  ·simp only[Value.slice.injEq,Option.some.injEq,Addr.mk.injEq] at h1
   obtain⟨⟨rfl,_⟩,_⟩:=h1
   unfold World.frozen?
   rw[hb]
   simp
theorem below_sortK (enc:Nat→List Value)(w w':World)(blk B:Nat)(dk:Array Nat)(h:blk<w.heap.size)(hB:B≤blk)(S:SWK enc 5 w blk 0 dk w'):Below B w w'∧∀ p v,p.block≠blk→w.cell? p=some v→w'.cell? p=some v:=by
 obtain⟨n,os,rfl⟩:=S
 refine⟨⟨rfl,rfl,rfl,?_,fun k hk=>?_⟩,fun p v hp hv=>?_⟩
 ·unfold sortWorldK
  rw[Go.Sort.size_grow,size_putRowK]
  show w.heap.size≤w.heap.size+_
  omega
 ·show ((w.heap.modify blk _)++os)[k]? = w.heap[k]?
  rw[Array.getElem?_append_left (by simp;omega),Array.getElem?_modify,if_neg (by omega)]
 ·unfold sortWorldK
  rw[cell?_grow _ _ _ (by rw[size_putRowK];exact World.block_lt_of_cell? _ _ hv)]
  unfold putRowK
  rw[cell?_putRow_other _ _ _ _ _ _ (.inl hp)]
  exact hv
theorem sort_call (A:Nat→Option Addr)(C:Nat→Nat)(L:Nat→Bm)(cs:List Cd)(B g cap:Nat)(w:World)(h:w.ownsRow B 164 5 (.slice (some ⟨g,0,none⟩) cs.length cap) cs.length (cs.flatMap (cdC A C L)))(hn:cs.length≤10000000) :
  Calls Tryz.prog 115 #[.slice (some ⟨g,0,none⟩) cs.length cap,.func (.func 116) #[] #[]] w fun e w'=>e=.returned (.tuple #[])∧CdAt w' ⟨g,0,none⟩ cs.length A C L (fun r=>cs.getD ((places (bescoresZ cs)).getD r 0) c0)∧Below B w w'∧∀ p v,p.block≠g→w.cell? p=some v→w'.cell? p=some v:=by
 have hg:=h.lt g rfl
 rw[cds_flat] at h
 have hH:=holdsK_of (fun r=>cdC_len A C L _) h
 have R:RowK (cdF A C L cs) 5 w g 0 (Array.range cs.length):=⟨fun r=>cdC_len A C L _,fun r=>cdC_cell A C L _,hH,hg.2⟩
 have eg:∀ args w,(callFunc 116 args).run Tryz.prog w=.ok (.enter 116 args) w:=eNo Tryz.func116 (by decide) rfl
 have hcmp:CmpLays Tryz.prog 116 #[] (cdF A C L cs) 5 (fun x y=>cmpZ (scAt cs y) (scAt cs x)) g 0 (Array.range cs.length).size w:=fun m os dk hs x y=>by
  refine (beclosure_call _ _ (scAt cs x) (scAt cs y) _ _ _ _ _ _ rfl rfl _).mono ?_
  rintro e w' ⟨rfl,o,o',rfl⟩
  refine⟨rfl,0,#[o]++#[o'],?_⟩
  rw[alloc_eq_grow,alloc_eq_grow,grow_grow]
  rfl
 have c:=stable_call srtTry (cdF A C L cs) (fun x y=>cmpZ (scAt cs y) (scAt cs x)) (scAt cs) (fun x y=>by
   unfold cmpZ
   constructor
   ·intro h
    apply Classical.byContradiction
    intro h1
    rw[if_neg h1] at h
    split at h<;>omega
   ·intro h
    rw[if_pos h]
    decide) 116 #[] g 0 cap cs.length (Array.range cs.length) w eg hcmp R (by simp) (by omega) (fun i j _ hij hj e=>by rw[range_at (by omega),range_at hj];exact hij)
 have c':Calls Tryz.prog 152 #[.slice (some ⟨g,0,none⟩) cs.length cap,.int .i64 cs.length,.func (.func 116) #[] #[]] w fun e w'=>e=.returned (.tuple #[])∧CdAt w' ⟨g,0,none⟩ cs.length A C L (fun r=>cs.getD ((places (bescoresZ cs)).getD r 0) c0)∧Below B w w'∧∀ p v,p.block≠g→w.cell? p=some v→w'.cell? p=some v:=by
  refine c.mono ?_
  rintro e w' ⟨h1,dF,h2,h3,h4⟩
  have hs:dF.size=cs.length:=by rw[h2.size];simp
  refine⟨h1,fun r hr f u hu=>?_,below_sortK _ _ _ _ _ _ hg.2 hg.1 h4⟩
  have k:=HoldsK.cells (h4.holds R.hblk R.hH (by rw[hs];simp)) R.hk (i:=r) (by omega) f u (by rw[sorted_places cs dF h2 h3 r hr];exact hu)
  rw[Nat.zero_add] at k
  have e:(⟨g,0,none⟩:Addr).add (r*5)=⟨g,r*5,none⟩:=by
   cases r with
   | zero=>simp[Addr.add]
   | succ r=>simp[Addr.add]
  rw[e]
  exact k
 clear c hcmp R hH h
 obtain⟨n,en⟩:∃ n,cs.length=n:=⟨_,rfl⟩
 rw[en] at c' hn ⊢
 clear en
 go_enter Tryz.func115,Tryz.ntmps115
 go_wp2_with (go_at_call 152;refine c'.mono ?_;rintro e w' ⟨rfl,h1,h2,h3⟩)
 go_end0
 exact⟨rfl,h1,h2,h3⟩
end
structure Past (W:World) (v:Value) (w':World) (v':Value):Prop where
 keep:∀ p u,W.cell? p=some u→v.ownBlock≠some p.block→w'.cell? p=some u
 blk:v'.ownBlock=v.ownBlock∨∃ g,v'.ownBlock=some g∧W.heap.size≤g
 size:W.heap.size≤w'.heap.size
theorem Past.refl (W:World)(v:Value):Past W v W v:=⟨fun _ _ h _=>h,.inl rfl,Nat.le_refl _⟩
theorem Past.app {W w1 w2:World}{v v1 v2:Value}(h:Past W v w1 v1){w1':World}(hk:∀ p u,w1.cell? p=some u→w1'.cell? p=some u)(hs:w1.heap.size≤w1'.heap.size)(hg:w1'.grownBy w2 v1.ownBlock)(hb:v2.ownBlock=v1.ownBlock∨v2.ownBlock=some w1'.heap.size):Past W v w2 v2:=by
 refine⟨fun p u hp hv=>?_,?_,by have:=h.size;have:=hg.size;omega⟩
 ·refine hg.cell (hk _ _ (h.keep p u hp hv)) fun e=>?_
  rcases h.blk with hb1|⟨g,hb1,hg1⟩
  ·exact hv (hb1.symm.trans e.symm)
  ·have h1:=World.block_lt_of_cell? W p hp
   rw[hb1] at e
   have:=Option.some.inj e
   omega
 ·rcases hb with e|e
  ·rw[e];exact h.blk
  ·exact .inr ⟨_,e,by have:=h.size;omega⟩
theorem Past.reads {W w':World}{v v':Value}(h:Past W v w' v'){k:IntKind}{a:Option Addr}{n:Nat}{zs:List Int}(r:Reads k W a n zs)(ha:∀ x,a=some x→v.ownBlock≠some x.block):Reads k w' a n zs :=
 ⟨r.len,r.max,r.wf,r.some_,fun x hx i hi=>h.keep _ _ (r.cell x hx i hi) (by
  have e:(x.add i).block=x.block:=by simp only[Addr.add];split<;>rfl
  rw[e]
  exact ha x hx)⟩
theorem alloc_keep (w:World)(o:Obj):∀ p u,w.cell? p=some u→(w.alloc o).cell? p=some u:=fun p u h =>
 ((bNw (Below.refl _ w) o).cell (World.block_lt_of_cell? w p h)).trans h
theorem lit_newb (w:World)(cs:List Value)(t:TypeId)(b:Nat)(hb:w.heap.size=b):∀ j u,cs[j]? = some u→(w.alloc (.cells cs.toArray t)).cell? ((⟨b,0,none⟩:Addr).add j)=some u:=by
 subst hb
 exact lit_new w cs t
theorem cell5 (u0 u1 u2 u3 u4:Value)(h0:u0.oneCell'=true)(h1:u1.oneCell'=true)(h2:u2.oneCell'=true)(h3:u3.oneCell'=true)(h4:u4.oneCell'=true):∀ u∈[u0,u1,u2,u3,u4],u.oneCell'=true:=by
 intro u hu
 simp only[List.mem_cons,List.not_mem_nil,or_false] at hu
 rcases hu with rfl|rfl|rfl|rfl|rfl<;>assumption
theorem wf_range {x:Int}(h1:-9223372036854775808≤x)(h2:x≤9223372036854775807):(Lit.int .i64 x).wf=true:=WalkArith.wf_i64 ⟨h1,h2⟩
theorem Grid.rest {w:World}{x:Addr}{n:Nat}{A:Nat→Option Addr}{C:Nat→Nat}{R:Nat→List Int}(h:Grid w (some x) (n+1) A C R){a:Option Addr}(ha:0<n→a=some (x.add 1)):Grid w a n (fun r=>A (r+1)) (fun r=>C (r+1)) (fun r=>R (r+1)) :=
 ⟨by have:=h.max;omega,fun h0=>⟨_,ha h0⟩,fun y hy r hr=>by
  rw[ha (by omega)] at hy
  obtain rfl:=Option.some.inj hy
  rw[Addr.add_add,Nat.add_comm 1 r]
  exact h.cell x rfl (r+1) (by omega),fun r hr=>h.row (r+1) (by omega)⟩
theorem Grid.congr {w:World}{a:Option Addr}{n:Nat}{A A':Nat→Option Addr}{C C':Nat→Nat}{R R':Nat→List Int}(h:Grid w a n A C R)(hA:∀ r,r<n→A r=A' r)(hC:∀ r,r<n→C r=C' r)(hR:∀ r,r<n→R r=R' r):Grid w a n A' C' R' :=
 ⟨h.max,h.some_,fun x hx r hr=>by rw[←hA r hr,←hC r hr,←hR r hr];exact h.cell x hx r hr,fun r hr=>by rw[←hR r hr,←hA r hr];exact h.row r hr⟩
theorem candidates_call (a0:Option Addr)(n ca:Nat)(A:Nat→Option Addr)(C:Nat→Nat)(L:Nat→Bm)(a1:Option Addr)(m cb:Nat)(A1:Nat→Option Addr)(C1:Nat→Nat)(R:Nat→List Int)(len stop:Int)(w:World)
  (h0:BmAt w a0 n A C L) (h1:Grid w a1 m A1 C1 R) (hcb:m≤cb) (hm:m=liveTo L n) (hR:∀ r,r<m→0<(R r).length∧(R r).length≤1000) (hn:n≤1000) (hT:∀ r,r<n→(L r).t.length≤1000000) :
  Calls Tryz.prog 114 #[.slice a0 n ca,.slice a1 m cb,.int .i64 len,.int .i64 stop] w fun e w'=>(∃ v,e=.returned v∧w'.ownsRow w.heap.size 164 5 v (candTo L R len stop n).length ((candTo L R len stop n).flatMap (cdC A C L)))∧Below w.heap.size w w':=by
 obtain⟨i0,hi,hz0,hz1,hz2⟩:=info_parts info164
 have hbnd:∀ i,i≤n→(candTo L R len stop i).length≤1000000:=fun i hi=>by
  have:=candTo_count L R len stop i 1000 (fun j hj hf=>(hR _ (by rw[hm];exact liveTo_live L (by omega) hf)).2) (by decide)
  omega
 have HM:Hid (m=liveTo L n):=hm
 have HR:Hid (∀ r,r<m→0<(R r).length∧(R r).length≤1000):=hR
 have HT:Hid (∀ r,r<n→(L r).t.length≤1000000):=hT
 have HB:Hid (∀ i,i≤n→(candTo L R len stop i).length≤1000000):=hbnd
 have H0:Hid (BmAt w a0 n A C L):=h0
 have H1:Hid (Grid w a1 m A1 C1 R):=h1
 have hmx:=h0.max
 have hm1:=h1.max
 clear hm hR hT hbnd h0 h1
 go_enter Tryz.func114,Tryz.ntmps114
 go_wp2
 go_loopw [1,9,19] (fun sc v i wr=>∃ (k j q:Nat) (ax:Option Addr) (cx:Nat),k≤n∧i=.int .i64 k∧sc=.slice ax q cx∧q≤cx∧q≤9223372036854775807∧Hid (j=liveTo L k∧j+q=m)∧Hid (Grid w ax q (fun r=>A1 (r+j)) (fun r=>C1 (r+j)) (fun r=>R (r+j)))∧Below w.heap.size w wr∧wr.ownsRow w.heap.size 164 5 v (candTo L R len stop k).length ((candTo L R len stop k).flatMap (cdC A C L))) (fun _ _ i _=>n-(intOf i).toNat)
 case atStart=>exact⟨0,0,m,a1,cb,Nat.zero_le _,rfl,rfl,hcb,hm1,⟨rfl,by omega⟩,H1.out,Below.refl _ _,World.ownsRow_nil _ _ _ _⟩
 case round =>
  obtain⟨k,j,q,ax,cx,hk,rfl,rfl,hqc,hqm,HJ,HG,hbr,ho⟩:=hrel
  clear H1
  by_cases hlt:k<n
  ·have hr:=H0.out.below hbr
   obtain⟨x,hx⟩:=H0.out.some_ (by omega)
   subst hx
   obtain⟨y,ey,d0,d1,d2⟩:=hr.at3 hlt
   have kb:=HB.out k hk
   have tl:=HT.out k hlt
   have sb:=(H0.out.wf k hlt)
   cases hf:(L k).f with
   | true =>
    have EN:Hid (liveTo L (k+1)=liveTo L k):=by show liveTo L k+_=_;rw[hf];rfl
    have EC:Hid (candTo L R len stop (k+1)=candTo L R len stop k++[⟨k,-1,(L k).s,true⟩]):=by show candTo L R len stop k++candOf L R len stop k=_;unfold candOf;rw[if_pos hf]
    have EQ:Hid (cdC A C L ⟨k,-1,(L k).s,true⟩=[.slice (A k) (L k).t.length (C k),.int .i64 (L k).s,.bool true,.int .i64 (k:Nat),.int .i64 (-1)]):=show cdC A C L ⟨k,-1,(L k).s,true⟩=_ from rfl
    rw[hf] at d2
    obtain⟨CS,eCS⟩:∃ CS,candTo L R len stop k=CS:=⟨_,rfl⟩
    rw[eCS] at EC ho kb
    obtain⟨K,eK⟩:∃ K,CS.length=K:=⟨_,rfl⟩
    rw[eK] at ho kb
    have HK:Hid (CS.length=K):=eK
    obtain⟨T,eT⟩:∃ T,(L k).t.length=T:=⟨_,rfl⟩
    rw[eT] at d0 EQ tl
    obtain⟨S,eS⟩:∃ S,(L k).s=S:=⟨_,rfl⟩
    rw[eS] at d1 EQ EC sb
    clear hf hr eCS eK eT eS
    have hos:=hbr.size
    go_wp2_with (at_builtin;refine wpList_append_own_at _ rfl (.tmp 26) (.tmp 30) 160 rfl w.heap.size 164 i0 (.agg #[.slice none 0 0,.int .i64 0,.bool false,.int .i64 0,.int .i64 0]) 5 56 Tryz.underlying160 hi hz0 hz1 hz2 rfl (by decide) _ _ _ rfl ((ho.alloc _).alloc _) ⟨_,0,none⟩ 1 1 [.slice (A k) T (C k),.int .i64 S,.bool true,.int .i64 (k:Nat),.int .i64 (-1)] rfl rfl (lit_newb _ _ _ _ (by simp)) (cell5 _ _ _ _ _ rfl rfl rfl rfl rfl) (by unfold maxLen;omega) (by omega) (by simp;omega) ?_;intro v2 w2 ho2 hg2 _ hs2)
    have hb2:Below w.heap.size w w2:=(bNw (bNw hbr _) _).grown hg2 (by simp;omega) (fun g h=>(ho.lt g h).1)
    go_roundw
    case rel=>exact⟨k+1,j,q,ax,cx,by omega,by go_num,rfl,hqc,hqm,⟨by rw[EN.out];exact HJ.out.1,HJ.out.2⟩,HG.out,hb2,by rw[EC.out,List.length_append,HK.out,List.flatMap_append,cds_one,EQ.out];exact ho2⟩
    case measure=>simp[intOf];omega
   | false =>
    have EN:Hid (liveTo L (k+1)=liveTo L k+1):=by show liveTo L k+_=_;rw[hf];rfl
    have hj:=liveTo_live L hlt hf
    have hq:0<q:=by have:=HM.out;have:=HJ.out;omega
    have EC:Hid (candTo L R len stop (k+1)=candTo L R len stop k++grownTo (L k) k (R j) len stop (R j).length):=by show candTo L R len stop k++candOf L R len stop k=_;unfold candOf;rw[if_neg (by rw[hf];decide),HJ.out.1]
    have rb:=HR.out j (by have:=HJ.out;omega)
    obtain⟨x1,hx1⟩:=HG.out.some_ hq
    subst hx1
    have g0:=(HG.out.below hbr).cell x1 rfl 0 hq
    have g1:=(HG.out.below hbr).row 0 hq
    simp only[Nat.zero_add,Addr.add_zero'] at g0 g1
    obtain⟨rl,erl⟩:∃ rl,(R j).length=rl+1:=⟨(R j).length-1,by omega⟩
    rw[erl] at g0 g1 rb EC
    have kl:=fun W hb=>losses_call (A1 j) rl (C1 j) (R j) W (g1.below hb) (by omega)
    have LA:Hid (∀ t,t<rl+1→(lossL (R j)).getD t 0=lossZ (R j) t):=show ∀ t,t<rl+1→_ from fun t ht=>lossL_at (R j) (by omega)
    have LB:Hid (∀ t,t<rl+1→lossZ (R j) t≤0):=show ∀ t,t<rl+1→_ from fun t ht=>lossZ_le (R j) (by omega)
    rw[hf] at d2
    obtain⟨CS,eCS⟩:∃ CS,candTo L R len stop k=CS:=⟨_,rfl⟩
    rw[eCS] at EC ho kb
    obtain⟨K,eK⟩:∃ K,CS.length=K:=⟨_,rfl⟩
    rw[eK] at ho kb
    have HK:Hid (CS.length=K):=eK
    have HC:Hid (∀ t v f,cdC A C L ⟨k,t,v,f⟩=[.slice (A k) (L k).t.length (C k),.int .i64 v,.bool f,.int .i64 (k:Nat),.int .i64 t]):=show ∀ t v f,cdC A C L ⟨k,t,v,f⟩=_ from fun t v f=>rfl
    obtain⟨N1,eN1⟩:∃ N1,rl+1=N1:=⟨_,rfl⟩
    rw[eN1] at g0 g1 rb EC kl LA LB
    have HS:Hid (∀ t,grownTo (L k) k (R j) len stop (t+1)=grownTo (L k) k (R j) len stop t++[⟨k,(t:Int),cZ (cZ (L k).s+lossZ (R j) t),decide (len≤((L k).t.length:Int)+1) || decide ((t:Int)=stop)⟩]):=show ∀ t,_=_ from fun t=>grownTo_succ _ _ _ _ _ t
    obtain⟨T,eT⟩:∃ T,(L k).t.length=T:=⟨_,rfl⟩
    rw[eT] at d0 HC tl HS
    obtain⟨E,eE⟩:∃ E,decide (len≤(T:Int)+1)=E:=⟨_,rfl⟩
    rw[eE] at HS
    have HE:Hid (decide (len≤(T:Int)+1)=E):=eE
    have HL:Hid (∀ t,(grownTo (L k) k (R j) len stop t).length=t):=show ∀ t,_=_ from fun t=>grownTo_length _ _ _ _ _ t
    have Z0:Hid (grownTo (L k) k (R j) len stop 0=[]):=show _=_ from rfl
    obtain⟨Gr,eG⟩:∃ Gr,grownTo (L k) k (R j) len stop=Gr:=⟨_,rfl⟩
    rw[eG] at EC HS HL Z0
    obtain⟨S,eS⟩:∃ S,(L k).s=S:=⟨_,rfl⟩
    rw[eS] at d1 HS sb
    clear hf hr eCS eK eT eS eG erl
    have hos:=hbr.size
    have g0':(wr.alloc (.cells #[.slice (A k) T (C k),.int .i64 S,.bool false] 135)).cell? x1=some (.slice (A1 j) N1 (C1 j)):=alloc_keep _ _ _ _ g0
    have hgv:Hid (∀ g,u9.ownBlock=some g→g<wr.heap.size):=show ∀ g,u9.ownBlock=some g→g<wr.heap.size from fun g h=>(ho.lt g h).2
    obtain⟨v0,ev0⟩:∃ v0,u9=v0:=⟨_,rfl⟩
    subst ev0
    have hbx:Hid (∀ W,Below (wr.alloc (.cells #[.slice (A k) T (C k),.int .i64 S,.bool false] 135)).heap.size (wr.alloc (.cells #[.slice (A k) T (C k),.int .i64 S,.bool false] 135)) W→W.cell? ⟨wr.heap.size,0,none⟩=some (.slice (A k) T (C k))∧W.cell? ⟨wr.heap.size,1,none⟩=some (.int .i64 S)):=show ∀ W,_→_ from fun W hW=>⟨(hW.cell (by simp)).trans (by simp),(hW.cell (by simp)).trans (by simp)⟩
    go_wp2_with (first
     | (go_at_call 151;refine (kl _ (bNw (Below.refl _ _) _)).mono ?_;rintro e W1 ⟨⟨al,cl,rfl,rdl,hnl⟩,hb3⟩))
    have hbW:Below w.heap.size w W1:=bTn (bNw hbr _) hb3
    have hoW:=own_below3 (ho.alloc (.cells #[.slice (A k) T (C k),.int .i64 S,.bool false] 135)) hb3
    obtain⟨bx0,bx1⟩:=hbx.out W1 hb3
    have HX:Hid (∀ x,al=some x→u9.ownBlock≠some x.block):=show ∀ x,al=some x→u9.ownBlock≠some x.block from fun x hx e=>by
     have h2:=hnl x hx
     have h3:=hgv.out _ e
     simp at h2
     omega
    have HX2:Hid (u9.ownBlock≠some wr.heap.size):=show u9.ownBlock≠some wr.heap.size from fun e=>by
     have h3:=hgv.out _ e
     omega
    have hsW:=hb3.size
    obtain⟨WB,eWB⟩:∃ WB,wr.heap.size=WB:=⟨_,rfl⟩
    rw[eWB] at bx0 bx1 HX2 ⊢
    have HWB:Hid (wr.heap.size=WB):=eWB
    clear eWB
    clear hnl hb3 ho kl g0 g0' g1 d0 d1 d2 hgv hbx ey
    have HP:Hid (Past W1 u9 W1 u9):=Past.refl W1 u9
    go_loopw [9,43] (fun v s wr2=>∃ t:Nat,t≤N1∧s=.int .i64 t∧wr2.ownsRow w.heap.size 164 5 v (K+t) (CS.flatMap (cdC A C L)++(Gr t).flatMap (cdC A C L))∧Below w.heap.size w wr2∧Hid (Past W1 u9 wr2 v)) (fun _ s _=>N1-(intOf s).toNat)
    case atStart=>exact⟨0,Nat.zero_le _,rfl,by rw[Z0.out];simpa using hoW,hbW,HP⟩
    case round =>
     obtain⟨t,ht,rfl,ho4,hb4,P4⟩:=hrel
     clear hoW hbW HP hbr hos
     by_cases hlt4:t<N1
     ·have rd4:=P4.out.reads rdl HX.out
      obtain⟨xl,hxl⟩:=rdl.some_ (by omega)
      subst hxl
      have cl0:=rd4.cell xl rfl t hlt4
      rw[LA.out t hlt4] at cl0
      have by0:=P4.out.keep _ _ bx0 HX2.out
      have by1:=P4.out.keep _ _ bx1 HX2.out
      have kc0:=fun W=>cCa S W
      have kc1:=fun W=>cCa (cZ S+lossZ (R j) t) W
      have cb0:=cZb S
      have lb0:=lossZ_bounds (R j) t
      have HV:Hid (Gr (t+1)=Gr t++[⟨k,(t:Int),cZ (cZ S+lossZ (R j) t),E || decide ((t:Int)=stop)⟩]):=HS.out t
      obtain⟨B0,eB0⟩:∃ B0,cZ S=B0:=⟨_,rfl⟩
      obtain⟨F0,eF0⟩:∃ F0,lossZ (R j) t=F0:=⟨_,rfl⟩
      rw[eB0] at kc0 kc1 cb0 HV
      rw[eF0] at kc1 lb0 HV cl0
      obtain⟨V0,eV0⟩:∃ V0,cZ (B0+F0)=V0:=⟨_,rfl⟩
      rw[eV0] at kc1 HV
      obtain⟨cb1,cb2⟩:=cb0
      obtain⟨lb1,lb2⟩:=lb0
      have hos4:=hb4.size
      clear eB0 eF0 eV0
      have aw0:∀ o,(wr.alloc o).cell? ⟨WB,0,none⟩=some (.slice (A k) T (C k)):=fun o=>alloc_keep _ _ _ _ by0
      clear rd4 bx0 bx1
      cases E with
      | true =>
       have HE2:Hid ((true || decide ((t:Int)=stop))=true):=show _=_ from rfl
       rw[HE2.out] at HV
       go_wp2_with (first
        | (go_at_call 79;refine (kc0 _).mono ?_;rintro e w' ⟨rfl,h⟩;obtain rfl:=h.symm;clear kc0)
        | (go_at_call 79;refine (kc1 _).mono ?_;rintro e w' ⟨rfl,h⟩;obtain rfl:=h.symm)
        | (at_builtin;refine wpList_append_own_at _ rfl (.tmp 64) (.tmp 69) 160 rfl w.heap.size 164 i0 (.agg #[.slice none 0 0,.int .i64 0,.bool false,.int .i64 0,.int .i64 0]) 5 56 Tryz.underlying160 hi hz0 hz1 hz2 rfl (by decide) _ _ _ rfl ((ho4.alloc _).alloc _) ⟨_,0,none⟩ 1 1 [.slice (A k) T (C k),.int .i64 V0,.bool true,.int .i64 (k:Nat),.int .i64 (t:Nat)] rfl rfl (lit_newb _ _ _ _ (by simp)) (cell5 _ _ _ _ _ rfl rfl rfl rfl rfl) (by unfold maxLen;omega) (by omega) (by simp;omega) ?_;intro v5 w5 ho5 hg5 _ hs5))
       have hb5:Below w.heap.size w w5:=(bNw (bNw hb4 _) _).grown hg5 (by simp;omega) (fun g h=>(ho4.lt g h).1)
       have P5:=P4.out.app (fun p u h=>alloc_keep _ _ _ _ (alloc_keep _ _ _ _ h)) (by simp;omega) hg5 hs5
       go_roundw
       case rel=>exact⟨t+1,by omega,by go_num,by rw[HV.out,List.flatMap_append,cds_one,HC.out,←List.append_assoc];exact ho5,hb5,P5⟩
       case measure=>simp[intOf];omega
      | false =>
       by_cases hst:(t:Int)=stop
       ·have HE2:Hid ((false || decide ((t:Int)=stop))=true):=show (false || decide ((t:Int)=stop))=true by simp[hst]
        rw[HE2.out] at HV
        have hst':((t:Int)==stop)=true:=by simp[hst]
        have HST:Hid ((t:Int)=stop):=hst
        clear hst
        go_wp2_with (first
         | (go_at_call 79;refine (kc0 _).mono ?_;rintro e w' ⟨rfl,h⟩;obtain rfl:=h.symm;clear kc0)
         | (go_at_call 79;refine (kc1 _).mono ?_;rintro e w' ⟨rfl,h⟩;obtain rfl:=h.symm)
         | (at_builtin;refine wpList_append_own_at _ rfl (.tmp 64) (.tmp 69) 160 rfl w.heap.size 164 i0 (.agg #[.slice none 0 0,.int .i64 0,.bool false,.int .i64 0,.int .i64 0]) 5 56 Tryz.underlying160 hi hz0 hz1 hz2 rfl (by decide) _ _ _ rfl ((ho4.alloc _).alloc _) ⟨_,0,none⟩ 1 1 [.slice (A k) T (C k),.int .i64 V0,.bool true,.int .i64 (k:Nat),.int .i64 (t:Nat)] rfl rfl (lit_newb _ _ _ _ (by simp)) (cell5 _ _ _ _ _ rfl rfl rfl rfl rfl) (by unfold maxLen;omega) (by omega) (by simp;omega) ?_;intro v5 w5 ho5 hg5 _ hs5))
        have hb5:Below w.heap.size w w5:=(bNw (bNw hb4 _) _).grown hg5 (by simp;omega) (fun g h=>(ho4.lt g h).1)
        have P5:=P4.out.app (fun p u h=>alloc_keep _ _ _ _ (alloc_keep _ _ _ _ h)) (by simp;omega) hg5 hs5
        go_roundw
        case rel=>exact⟨t+1,by omega,by go_num,by rw[HV.out,List.flatMap_append,cds_one,HC.out,←List.append_assoc];exact ho5,hb5,P5⟩
        case measure=>simp[intOf];omega
       ·have HE2:Hid ((false || decide ((t:Int)=stop))=false):=show (false || decide ((t:Int)=stop))=false by simp[hst]
        rw[HE2.out] at HV
        have hst':((t:Int)==stop)=false:=by simp[hst]
        go_wp2_with (first
         | (go_at_call 79;refine (kc0 _).mono ?_;rintro e w' ⟨rfl,h⟩;obtain rfl:=h.symm;clear kc0)
         | (go_at_call 79;refine (kc1 _).mono ?_;rintro e w' ⟨rfl,h⟩;obtain rfl:=h.symm)
         | (at_builtin;refine wpList_append_own_at _ rfl (.tmp 64) (.tmp 69) 160 rfl w.heap.size 164 i0 (.agg #[.slice none 0 0,.int .i64 0,.bool false,.int .i64 0,.int .i64 0]) 5 56 Tryz.underlying160 hi hz0 hz1 hz2 rfl (by decide) _ _ _ rfl ((ho4.alloc _).alloc _) ⟨_,0,none⟩ 1 1 [.slice (A k) T (C k),.int .i64 V0,.bool false,.int .i64 (k:Nat),.int .i64 (t:Nat)] rfl rfl (lit_newb _ _ _ _ (by simp)) (cell5 _ _ _ _ _ rfl rfl rfl rfl rfl) (by unfold maxLen;omega) (by omega) (by simp;omega) ?_;intro v5 w5 ho5 hg5 _ hs5))
        have hb5:Below w.heap.size w w5:=(bNw (bNw hb4 _) _).grown hg5 (by simp;omega) (fun g h=>(ho4.lt g h).1)
        have P5:=P4.out.app (fun p u h=>alloc_keep _ _ _ _ (alloc_keep _ _ _ _ h)) (by simp;omega) hg5 hs5
        go_roundw
        case rel=>exact⟨t+1,by omega,by go_num,by rw[HV.out,List.flatMap_append,cds_one,HC.out,←List.append_assoc];exact ho5,hb5,P5⟩
        case measure=>simp[intOf];omega
     ·obtain rfl:t=N1:=by omega
      have hq1:(1:Int)≤(q:Int):=by omega
      clear LA LB HS HX HX2 P4 rdl bx0 bx1 HWB
      have hb6:=hb4
      clear hb4
      go_wp2
      obtain⟨q',rfl⟩:∃ q',q=q'+1:=⟨q-1,by omega⟩
      refine⟨⟨k+1,j+1,q',_,cx-1,by omega,by go_num,rfl,by omega,by omega,⟨by rw[EN.out,←HJ.out.1],by have:=HJ.out.2;omega⟩,?_,hb6,?_⟩,by simp[intOf];omega⟩
      ·refine (HG.out.rest (fun h=>?_)).congr (fun r _=>?_) (fun r _=>?_) (fun r _=>?_)
       ·rw[if_neg (by omega)]
        rfl
       ·show A1 (r+1+j)=A1 (r+(j+1))
        congr 1
        omega
       ·show C1 (r+1+j)=C1 (r+(j+1))
        congr 1
        omega
       ·show R (r+1+j)=R (r+(j+1))
        congr 1
        omega
      ·rw[EC.out,List.length_append,HK.out,HL.out,List.flatMap_append]
       exact ho4
  ·obtain rfl:k=n:=by omega
   go_wp2
   go_ret
   exact⟨⟨_,rfl,ho⟩,hbr⟩
def zB (n:Nat):Obj:=.cells (madeCells #[.slice none 0 0,.int .i64 0,.bool false] (n*3)) 135
def zI (n:Nat):Obj:=.cells (madeCells #[.int .i64 0] n) 3
theorem make27 (n:Nat)(hn:n≤1000)(w:World):(Instr.makeSlice 87 (.int .i64 (n:Int)) (.int .i64 (n:Int))).run Tryz.prog w=.ok (.slice (some ⟨w.heap.size,0,none⟩) n n) (w.alloc (zB n)):=by
 obtain⟨i,hi,hz,hs,hb⟩:=info_parts info135
 have hr:=run_make (P:=Tryz.prog) w 87 135 i _ Tryz.underlying87 hi hz .i64 .i64 (n:Int) (n:Int) (by omega) (Int.le_refl _) (by rw[hb];omega) (by omega)
 simp only[Int.toNat_natCast,hs] at hr
 exact hr
theorem make29 (n:Nat)(hn:n≤1000)(w:World):(Instr.makeSlice 25 (.int .i64 (n:Int)) (.int .i64 (n:Int))).run Tryz.prog w=.ok (.slice (some ⟨w.heap.size,0,none⟩) n n) (w.alloc (zI n)) :=
 run_make_row' 25 3 (.int .i64 0) 8 Tryz.underlying25 info3 rfl .i64 .i64 n (by omega) (by omega) w
structure GI (w0 w:World) (g b1 b2 K Q k:Nat) (A:Nat→Option Addr) (C:Nat→Nat) (L:Nat→Bm) (G:Nat→Cd) (Ar:Nat→Option Addr) (Cr:Nat→Nat):Prop where
 bel:Below w0.heap.size w0 w
 cd:CdAt w ⟨g,0,none⟩ K A C L G
 o1:∃ cs,w.ownsRow w0.heap.size 135 3 (.slice (some ⟨b1,0,none⟩) Q Q) Q cs
 o2:∃ cs,w.ownsRow w0.heap.size 3 1 (.slice (some ⟨b2,0,none⟩) Q Q) Q cs
 ne:b1≠b2∧g≠b1∧g≠b2
 c1:∀ r,r<k→w.cell? ⟨b1,r*3,none⟩=some (.slice (Ar r) (wholeZ L (G r)).t.length (Cr r))∧w.cell? ⟨b1,r*3+1,none⟩=some (.int .i64 (G r).s)∧w.cell? ⟨b1,r*3+2,none⟩=some (.bool (G r).f)
 c2:∀ r,r<k→w.cell? ⟨b2,r,none⟩=some (.int .i64 ((G r).p:Nat))
 row:∀ r,r<k→Reads .i64 w (Ar r) (wholeZ L (G r)).t.length (wholeZ L (G r)).t
 off:∀ r,r<k→∀ x,Ar r=some x→x.block≠b1∧x.block≠b2∧w0.heap.size≤x.block
 nil:∀ r,r<k→(Ar r=none→Cr r=0)∧(wholeZ L (G r)).t.length≤Cr r
theorem CdAt.below {w w':World}{x:Addr}{n:Nat}{A:Nat→Option Addr}{C:Nat→Nat}{L:Nat→Bm}{G:Nat→Cd}(h:CdAt w x n A C L G)(hb:Below w.heap.size w w'):CdAt w' x n A C L G :=
 h.carry fun p v _ hp=>(hb.cell (World.block_lt_of_cell? w p hp)).trans hp
theorem bebelow_cell {w w':World}(hb:Below w.heap.size w w'){p:Addr}{v:Value}(hp:w.cell? p=some v):w'.cell? p=some v:=(hb.cell (World.block_lt_of_cell? w p hp)).trans hp
theorem GI.below {w0 w w':World}{g b1 b2 K Q k:Nat}{A:Nat→Option Addr}{C:Nat→Nat}{L:Nat→Bm}{G:Nat→Cd}{Ar:Nat→Option Addr}{Cr:Nat→Nat}(h:GI w0 w g b1 b2 K Q k A C L G Ar Cr)(hb:Below w.heap.size w w'):GI w0 w' g b1 b2 K Q k A C L G Ar Cr:=by
 obtain⟨cs,o1⟩:=h.o1
 obtain⟨ct,o2⟩:=h.o2
 exact⟨bTn h.bel hb,h.cd.below hb,⟨cs,own_below3 o1 hb⟩,⟨ct,own_below3 o2 hb⟩,h.ne,fun r hr=>⟨bebelow_cell hb (h.c1 r hr).1,bebelow_cell hb (h.c1 r hr).2.1,bebelow_cell hb (h.c1 r hr).2.2⟩,fun r hr=>bebelow_cell hb (h.c2 r hr),fun r hr=>(h.row r hr).below hb,h.off,h.nil⟩
theorem reads_set {k:IntKind}{w:World}{a:Option Addr}{n:Nat}{zs:List Int}(h:Reads k w a n zs)(p:Addr)(v:Value)(hp:∀ x,a=some x→x.block≠p.block):Reads k (w.setCell p v) a n zs :=
 ⟨h.len,h.max,h.wf,h.some_,fun x hx i hi=>by
  have hb1:(x.add i).block=x.block:=by simp only[Addr.add];split<;>rfl
  rw[World.cell?_setCell_other _ _ _ _ (fun e=>hp x hx (by rw[←hb1,←e]))]
  exact h.cell x hx i hi⟩
theorem set_grown (W:World)(p:Addr)(v:Value):W.grownBy (W.setCell p v) (some p.block) :=
 ⟨rfl,rfl,rfl,by simp,fun k _ hk=>heap_setCell_other W p k v (fun e=>hk (by simp[e]))⟩
theorem GI.put {w0 w:World}{g b1 b2 K Q k:Nat}{A:Nat→Option Addr}{C:Nat→Nat}{L:Nat→Bm}{G:Nat→Cd}{Ar:Nat→Option Addr}{Cr:Nat→Nat}(h:GI w0 w g b1 b2 K Q k A C L G Ar Cr)(hk:k<Q){a:Option Addr}{c:Nat}
  (hr:Reads .i64 w a (wholeZ L (G k)).t.length (wholeZ L (G k)).t) (ho:∀ x,a=some x→x.block≠b1∧x.block≠b2∧w0.heap.size≤x.block) (hn:(a=none→c=0)∧(wholeZ L (G k)).t.length≤c) :
  GI w0 ((((w.setCell ⟨b1,k*3,none⟩ (.slice a (wholeZ L (G k)).t.length c)).setCell ⟨b1,k*3+1,none⟩ (.int .i64 (G k).s)).setCell ⟨b1,k*3+2,none⟩ (.bool (G k).f)).setCell ⟨b2,k,none⟩ (.int .i64 ((G k).p:Nat))) g b1 b2 K Q (k+1) A C L G (fun r=>if r=k then a else Ar r) (fun r=>if r=k then c else Cr r):=by
 obtain⟨cs,o1⟩:=h.o1
 obtain⟨ct,o2⟩:=h.o2
 have l1:=o1.lt b1 rfl
 have l2:=o2.lt b2 rfl
 have hl1:=o1.1
 have hl2:=o2.1
 have h12:=h.ne.1
 have s1:=(o1.stored (k*3) (.slice a (wholeZ L (G k)).t.length c)).1
 have s2:=(s1.stored (k*3+1) (.int .i64 (G k).s)).1
 have s3:=(s2.stored (k*3+2) (.bool (G k).f)).1
 have oth:∀ p v,p.block≠b1→p.block≠b2→w.cell? p=some v→((((w.setCell ⟨b1,k*3,none⟩ (.slice a (wholeZ L (G k)).t.length c)).setCell ⟨b1,k*3+1,none⟩ (.int .i64 (G k).s)).setCell ⟨b1,k*3+2,none⟩ (.bool (G k).f)).setCell ⟨b2,k,none⟩ (.int .i64 ((G k).p:Nat))).cell? p=some v:=fun p v n1 n2 hp=>by
  rw[World.cell?_setCell_other _ _ _ _ (fun e=>n2 (by rw[←e])),World.cell?_setCell_other _ _ _ _ (fun e=>n1 (by rw[←e])),World.cell?_setCell_other _ _ _ _ (fun e=>n1 (by rw[←e])),World.cell?_setCell_other _ _ _ _ (fun e=>n1 (by rw[←e]))]
  exact hp
 have kp2:∀ {W:World}{p:Addr}{v:Value}{ct:List Value},p.block=b1→W.ownsRow w0.heap.size 3 1 (.slice (some ⟨b2,0,none⟩) Q Q) Q ct→(W.setCell p v).ownsRow w0.heap.size 3 1 (.slice (some ⟨b2,0,none⟩) Q Q) Q ct:=fun {W p v ct} hp ho=>by
  refine ho.kept (row:=some b1) (hp ▸ set_grown W p v) (.inr ?_)
  show some b2≠some b1
  intro e
  exact h12 (Option.some.inj e).symm
 have t3:=kp2 (p:=⟨b1,k*3+2,none⟩) (v:=.bool (G k).f) rfl (kp2 (p:=⟨b1,k*3+1,none⟩) (v:=.int .i64 (G k).s) rfl (kp2 (p:=⟨b1,k*3,none⟩) (v:=.slice a (wholeZ L (G k)).t.length c) rfl o2))
 have q1:∀ j,j<Q*3→∀ u,(((cs.set (k*3) (.slice a (wholeZ L (G k)).t.length c)).set (k*3+1) (.int .i64 (G k).s)).set (k*3+2) (.bool (G k).f))[j]? = some u→((((w.setCell ⟨b1,k*3,none⟩ (.slice a (wholeZ L (G k)).t.length c)).setCell ⟨b1,k*3+1,none⟩ (.int .i64 (G k).s)).setCell ⟨b1,k*3+2,none⟩ (.bool (G k).f)).setCell ⟨b2,k,none⟩ (.int .i64 ((G k).p:Nat))).cell? ⟨b1,j,none⟩=some u:=fun j hj u hu=>by
  rw[World.cell?_setCell_other _ _ _ _ (fun e=>h12 (by have:=congrArg Addr.block e;exact this.symm)),s3.cellAt j hj]
  exact hu
 have q2:∀ j,j<Q→∀ u,(ct.set k (.int .i64 ((G k).p:Nat)))[j]? = some u→((((w.setCell ⟨b1,k*3,none⟩ (.slice a (wholeZ L (G k)).t.length c)).setCell ⟨b1,k*3+1,none⟩ (.int .i64 (G k).s)).setCell ⟨b1,k*3+2,none⟩ (.bool (G k).f)).setCell ⟨b2,k,none⟩ (.int .i64 ((G k).p:Nat))).cell? ⟨b2,j,none⟩=some u:=fun j hj u hu=>by
  rw[(t3.stored k (.int .i64 ((G k).p:Nat))).1.cellAt j (by omega)]
  exact hu
 have old1:∀ j,j<Q*3→∀ u,w.cell? ⟨b1,j,none⟩=some u→j≠k*3→j≠k*3+1→j≠k*3+2→(((cs.set (k*3) (.slice a (wholeZ L (G k)).t.length c)).set (k*3+1) (.int .i64 (G k).s)).set (k*3+2) (.bool (G k).f))[j]? = some u:=fun j hj u hu n1 n2 n3=>by
  rw[List.getElem?_set_ne (by omega),List.getElem?_set_ne (by omega),List.getElem?_set_ne (by omega),←o1.cellAt j hj]
  exact hu
 have f1:=s3.kept (row:=some b2) (set_grown _ ⟨b2,k,none⟩ (.int .i64 ((G k).p:Nat))) (.inr (by
  show some b1≠some b2
  intro e
  exact h12 (Option.some.inj e)))
 refine⟨?_,?_,⟨_,f1⟩,⟨_,(t3.stored k _).1⟩,h.ne,fun r hr'=>?_,fun r hr'=>?_,fun r hr'=>?_,fun r hr' x hx=>?_,fun r hr'=>?_⟩
 ·exact (((h.bel.setCell l1.1 _).setCell l1.1 _).setCell l1.1 _).setCell l2.1 _
 ·exact h.cd.carry fun p v hp hv=>oth p v (by rw[hp];exact h.ne.2.1) (by rw[hp];exact h.ne.2.2) hv
 ·by_cases e:r=k
  ·subst e
   simp only[if_true]
   refine⟨q1 _ (by omega) _ ?_,q1 _ (by omega) _ ?_,q1 _ (by omega) _ ?_⟩
   ·rw[List.getElem?_set_ne (by omega),List.getElem?_set_ne (by omega),List.getElem?_set_self (by omega)]
   ·rw[List.getElem?_set_ne (by omega),List.getElem?_set_self (by rw[List.length_set];omega)]
   ·rw[List.getElem?_set_self (by rw[List.length_set,List.length_set];omega)]
  ·simp only[if_neg e]
   obtain⟨d0,d1,d2⟩:=h.c1 r (by omega)
   exact⟨q1 _ (by omega) _ (old1 _ (by omega) _ d0 (by omega) (by omega) (by omega)),q1 _ (by omega) _ (old1 _ (by omega) _ d1 (by omega) (by omega) (by omega)),q1 _ (by omega) _ (old1 _ (by omega) _ d2 (by omega) (by omega) (by omega))⟩
 ·refine q2 r (by omega) _ ?_
  by_cases e:r=k
  ·subst e
   rw[List.getElem?_set_self (by omega)]
  ·rw[List.getElem?_set_ne (by omega),←o2.cellAt r (by omega)]
   exact h.c2 r (by omega)
 ·have key:∀ (a':Option Addr) (zs:List Int),Reads .i64 w a' zs.length zs→(∀ x,a'=some x→x.block≠b1∧x.block≠b2∧w0.heap.size≤x.block)→Reads .i64 ((((w.setCell ⟨b1,k*3,none⟩ (.slice a (wholeZ L (G k)).t.length c)).setCell ⟨b1,k*3+1,none⟩ (.int .i64 (G k).s)).setCell ⟨b1,k*3+2,none⟩ (.bool (G k).f)).setCell ⟨b2,k,none⟩ (.int .i64 ((G k).p:Nat))) a' zs.length zs:=fun a' zs hz hx =>
   reads_set (reads_set (reads_set (reads_set hz _ _ fun x e=>(hx x e).1) _ _ fun x e=>(hx x e).1) _ _ fun x e=>(hx x e).1) _ _ fun x e=>(hx x e).2.1
  by_cases e:r=k
  ·subst e
   simp only[if_true]
   exact key _ _ hr ho
  ·simp only[if_neg e]
   exact key _ _ (h.row r (by omega)) (h.off r (by omega))
 ·by_cases e:r=k
  ·subst e
   simp only[if_true] at hx
   exact ho x hx
  ·simp only[if_neg e] at hx
   exact h.off r (by omega) x hx
 ·by_cases e:r=k
  ·subst e
   simp only[if_true]
   exact hn
  ·simp only[if_neg e]
   exact h.nil r (by omega)
theorem GI.start1 {w W:World}{g K Q:Nat}{A:Nat→Option Addr}{C:Nat→Nat}{L:Nat→Bm}{G:Nat→Cd}(hb:Below w.heap.size w W)(cd:CdAt W ⟨g,0,none⟩ K A C L G)(hg:g<W.heap.size)(hQ:Q≤1000) :
  GI w ((W.alloc (zB Q)).alloc (zI Q)).drew g W.heap.size (W.heap.size+1) K Q 0 A C L G (fun _=>none) (fun _=>0):=by
 have o1:=(World.ownsRow_lit W (base:=w.heap.size) (e:=135) (size:=3) (madeCells #[.slice none 0 0,.int .i64 0,.bool false] (Q*3)) Q hb.size (by unfold maxLen;omega) (size_madeCells _ _)).alloc (zI Q)
 have o2:=World.ownsRow_lit (W.alloc (zB Q)) (base:=w.heap.size) (e:=3) (size:=1) (madeCells #[.int .i64 0] Q) Q (by have:=hb.size;simp;omega) (by unfold maxLen;omega) (by rw[size_madeCells];omega)
 have s1:(W.alloc (zB Q)).heap.size=W.heap.size+1:=by simp
 rw[s1] at o2
 have b2:=bNw (bNw (Below.refl W.heap.size W) (zB Q)) (zI Q)
 exact (⟨bTn hb b2,cd.below b2,⟨_,o1⟩,⟨_,o2⟩,⟨by omega,by omega,by omega⟩,fun r hr=>by omega,fun r hr=>by omega,fun r hr=>by omega,fun r hr=>by omega,fun r hr=>by omega⟩:GI w ((W.alloc (zB Q)).alloc (zI Q)) g W.heap.size (W.heap.size+1) K Q 0 A C L G (fun _=>none) (fun _=>0)).below (bDr (Below.refl _ _) ⟨1,rfl⟩)
theorem GI.start2 {w W:World}{g K Q:Nat}{A:Nat→Option Addr}{C:Nat→Nat}{L:Nat→Bm}{G:Nat→Cd}(hb:Below w.heap.size w W)(cd:CdAt W ⟨g,0,none⟩ K A C L G)(hg:g<W.heap.size)(hQ:Q≤1000) :
  GI w ((W.alloc (zI Q)).alloc (zB Q)).drew g (W.heap.size+1) W.heap.size K Q 0 A C L G (fun _=>none) (fun _=>0):=by
 have o2:=(World.ownsRow_lit W (base:=w.heap.size) (e:=3) (size:=1) (madeCells #[.int .i64 0] Q) Q hb.size (by unfold maxLen;omega) (by rw[size_madeCells];omega)).alloc (zB Q)
 have o1:=World.ownsRow_lit (W.alloc (zI Q)) (base:=w.heap.size) (e:=135) (size:=3) (madeCells #[.slice none 0 0,.int .i64 0,.bool false] (Q*3)) Q (by have:=hb.size;simp;omega) (by unfold maxLen;omega) (size_madeCells _ _)
 have s1:(W.alloc (zI Q)).heap.size=W.heap.size+1:=by simp
 rw[s1] at o1
 have b2:=bNw (bNw (Below.refl W.heap.size W) (zI Q)) (zB Q)
 exact (⟨bTn hb b2,cd.below b2,⟨_,o1⟩,⟨_,o2⟩,⟨by omega,by omega,by omega⟩,fun r hr=>by omega,fun r hr=>by omega,fun r hr=>by omega,fun r hr=>by omega,fun r hr=>by omega⟩:GI w ((W.alloc (zI Q)).alloc (zB Q)) g (W.heap.size+1) W.heap.size K Q 0 A C L G (fun _=>none) (fun _=>0)).below (bDr (Below.refl _ _) ⟨1,rfl⟩)
end Go.Proofs.YtbkjhfmehemgpaaGreat
