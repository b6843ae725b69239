/- Texts put together. -/
import Derived.Test.YthliomlmhfjhnaaGreatRows
import Derived.Test.YthliomlmhfjhnaaGreatZf22
import Derived.Test.YthliomlmhfjhnaaGreatZf21
import Derived.Test.YthliomlmhfjhnaaGreatZf7
import Derived.Test.YthliomlmhfjhnaaGreatZf19
import Derived.Test.YthliomlmhfjhnaaGreatZf6
import Derived.Test.YthliomlmhfjhnaaGreatZf14
import Derived.Test.YthliomlmhfjhnaaGreatZf17
import Derived.Test.YthliomlmhfjhnaaGreatZf15
import Derived.Laws.StructEq
namespace Go.Proofs.YthliomlmhfjhnaaGreat
set_option maxRecDepth 20000
set_option maxHeartbeats 16000000
open Go.ChangeShapes Go.WideShapes Go.ChangeAt Go.RowKit
set_option linter.unusedVariables false
set_option linter.unusedSimpArgs false
section
def Keeps (t:TypeId)(w w':World):Prop:=∀ (b:Nat) (cur:Array Value) (fz:Nat × Nat),w.heap[b]? = some (Obj.cells cur t fz)→w'.heap[b]? = some (Obj.cells cur t fz)
theorem Keeps.refl (t:TypeId)(w:World):Keeps t w w:=fun _ _ _ h=>h
theorem Keeps.trans {t:TypeId}{w w' w'':World}(h:Keeps t w w')(k:Keeps t w' w''):Keeps t w w'':=fun b cur fz e=>k b cur fz (h b cur fz e)
theorem Keeps.of_below {t:TypeId}{w w':World}(hb:Below w.heap.size w w'):Keeps t w w':=fun b cur fz e=>(hb.block b (Array.getElem?_eq_some_iff.1 e).1).trans e
theorem Keeps.of_grown {t t':TypeId}{w w':World}{g:Nat}{c:Array Value}{f:Nat × Nat}(h:w.grownBy w' (some g))(hg:w.heap[g]? = some (.cells c t' f))(ht:t≠t'):Keeps t w w':=fun b cur fz e=>by
 refine (h.block b (Array.getElem?_eq_some_iff.1 e).1 fun k=>?_).trans e
 obtain rfl:=Option.some.inj k
 rw[hg] at e
 simp at e
 exact ht e.2.1.symm
theorem Keeps.of_only {t t':TypeId}{w w':World}{g:Nat}{c:Array Value}(h:Only g w w')(hg:Blk t' w g c)(ht:t≠t'):Keeps t w w':=Keeps.of_grown h hg ht
theorem Keeps.of_own {t t':TypeId}{w w':World}{B n sz:Nat}{v:Value}{xs:List Value}(h:w.grownBy w' v.ownBlock)(ho:w.ownsRow B t' sz v n xs)(ht:t≠t'):Keeps t w w':=by
 rcases ho.2 with⟨e,_⟩|⟨g,cap,cur,e,_,hg,_⟩
 ·rw[e] at h
  exact fun b cur fz e=>(h.block b (Array.getElem?_eq_some_iff.1 e).1 (by simp[Value.ownBlock])).trans e
 ·rw[e] at h
  exact Keeps.of_grown h hg ht
theorem Keeps.blk {t:TypeId}{w w':World}{b:Nat}{cs:Array Value}(h:Keeps t w w')(q:Blk t w b cs):Blk t w' b cs:=h b cs (0,0) q
theorem Keeps.own {t:TypeId}{w w':World}{B n sz:Nat}{v:Value}{xs:List Value}(h:Keeps t w w')(ho:w.ownsRow B t sz v n xs):w'.ownsRow B t sz v n xs:=by
 refine⟨ho.1,?_⟩
 rcases ho.2 with h2|⟨g,cap,cur,hv,hg,hh,r⟩
 ·exact .inl h2
 ·exact .inr ⟨g,cap,cur,hv,hg,h g cur (0,0) hh,r⟩
structure TS (B:Nat) (w:World) (s:SL) (zs:List Int):Prop where
 is:IsS w s zs
 blk:∀ x,s.a=some x→B≤x.block∧∃ cur fz,w.heap[x.block]? = some (.cells cur 73 fz)
theorem TS.step {B:Nat}{w w':World}{s:SL}{zs:List Int}(h:TS B w s zs)(k:Keeps 73 w w'):TS B w' s zs:=by
 refine⟨⟨⟨h.is.reads.len,h.is.reads.max,h.is.reads.wf,h.is.reads.some_,fun x hx i hi=>?_⟩,h.is.nil,h.is.cap⟩,fun x hx=>?_⟩
 ·obtain⟨_,cur,fz,e⟩:=h.blk x hx
  have c:=h.is.reads.cell x hx i hi
  have eb:(x.add i).block=x.block:=by unfold Addr.add;split<;>rfl
  have:=World.cell?_of_block (w:=w) (w':=w') (a:=x.add i) (by rw[eb,e];exact k _ _ _ e)
  rw[this]
  exact c
 ·obtain⟨h1,cur,fz,e⟩:=h.blk x hx
  exact⟨h1,cur,fz,k _ _ _ e⟩
theorem TS.below {B:Nat}{w w':World}{s:SL}{zs:List Int}(h:TS B w s zs)(hb:Below w.heap.size w w'):TS B w' s zs:=h.step (Keeps.of_below hb)
theorem TS.new {B:Nat}{w:World}{s:SL}{zs:List Int}(h:TS B w s zs):NewS B w s zs:=fun w' hf =>
 ⟨⟨h.is.reads.len,h.is.reads.max,h.is.reads.wf,h.is.reads.some_,fun x hx i hi=>hf _ _ (h.is.reads.cell x hx i hi) (by
  have:=(h.blk x hx).1
  have eb:(x.add i).block=x.block:=by unfold Addr.add;split<;>rfl
  omega)⟩,h.is.nil,h.is.cap⟩
structure TG (B:Nat) (w:World) (v:Value) (k:Nat) (R:Nat→SL) (Z:Nat→List Int):Prop where
 own:w.ownsRow B 24 1 v k (cellsG R k)
 row:∀ j,j<k→TS B w (R j) (Z j)
theorem TG.step {B:Nat}{w w':World}{v:Value}{k:Nat}{R:Nat→SL}{Z:Nat→List Int}(h:TG B w v k R Z)(k1:Keeps 73 w w')(k2:Keeps 24 w w'):TG B w' v k R Z:=⟨k2.own h.own,fun j hj=>(h.row j hj).step k1⟩
theorem TG.new {B:Nat}{w:World}{v:Value}{k:Nat}{R:Nat→SL}{Z:Nat→List Int}(h:TG B w v k R Z):∃ s:SL,v=s.v∧NewG B w s k R Z:=newG_of h.own fun j hj=>(h.row j hj).new
theorem TG.nil (B:Nat)(w:World)(R:Nat→SL)(Z:Nat→List Int):TG B w (.slice none 0 0) 0 R Z:=⟨World.ownsRow_nil _ _ _ _,fun j hj=>by omega⟩
structure TY (B:Nat) (w:World) (Y:Nat→SL) (U D:Nat→SL) (f:Nat→List Int) (un dn:Nat) (u d:Nat→List Int):Prop where
 f:∀ j,j<7→TS B w (Y j) (f j)
 u:TG B w (Y 7).v un U u
 d:TG B w (Y 8).v dn D d
theorem TY.step {B:Nat}{w w':World}{Y U D:Nat→SL}{f:Nat→List Int}{un dn:Nat}{u d:Nat→List Int}(h:TY B w Y U D f un dn u d)(k1:Keeps 73 w w')(k2:Keeps 24 w w'):TY B w' Y U D f un dn u d:=⟨fun j hj=>(h.f j hj).step k1,h.u.step k1 k2,h.d.step k1 k2⟩
theorem SL.v_inj {s t:SL}(h:s.v=t.v):s=t:=by
 obtain⟨a,n,c⟩:=s
 obtain⟨a',n',c'⟩:=t
 simp only[SL.v,Value.slice.injEq] at h
 obtain⟨rfl,rfl,rfl⟩:=h
 rfl
theorem TY.new {B:Nat}{w:World}{Y U D:Nat→SL}{f:Nat→List Int}{un dn:Nat}{u d:Nat→List Int}(h:TY B w Y U D f un dn u d):NewY B w Y U D f un dn u d:=by
 obtain⟨s,e,hs⟩:=h.u.new
 obtain⟨s',e',hs'⟩:=h.d.new
 obtain rfl:=SL.v_inj e
 obtain rfl:=SL.v_inj e'
 exact newY_of (fun j hj=>(h.f j hj).new) hs hs'
structure TL (B:Nat) (w:World) (v:Value) (n:Nat) (Y U D:Nat→Nat→SL) (m:ModV):Prop where
 own:w.ownsRow B 65 9 v n (cells9 Y n)
 lay:∀ i,i<n→TY B w (Y i) (U i) (D i) (m.f i) (m.un i) (m.dn i) (m.u i) (m.d i)
theorem TL.nil (B:Nat)(w:World)(Y U D:Nat→Nat→SL)(m:ModV):TL B w (.slice none 0 0) 0 Y U D m:=⟨World.ownsRow_nil _ _ _ _,fun j hj=>by omega⟩
theorem TL.new {B:Nat}{w:World}{v:Value}{E N O:SL}{Y U D:Nat→Nat→SL}{m:ModV}(h:TL B w v m.ln Y U D m)(he:TS B w E m.e)(hn:TS B w N m.nm)(ho:TS B w O m.o):∃ L:SL,v=L.v∧NewM B w E L N O Y U D m :=
 newM_of h.own (fun i hi=>(h.lay i hi).new) he.new hn.new ho.new
def upd {α:Type}(F:Nat→α)(i:Nat)(x:α):Nat→α:=fun j=>if j=i then x else F j
theorem upd_same {α:Type}(F:Nat→α)(i:Nat)(x:α):upd F i x i=x:=if_pos rfl
theorem upd_other {α:Type}(F:Nat→α)(i:Nat)(x:α){j:Nat}(h:j≠i):upd F i x j=F j:=if_neg h
theorem run_copy_ts (w:World)(g:Nat)(B:Nat)(ty:TypeId)(s:SL)(zs:List Int)(hs:IsS w s zs)(hl:zs.length≤140737488355328)(hg:B≤g)(hq:Blk 73 w g #[])(hB:B≤w.heap.size):∃ s' w',(Builtin.append_ #[24,24] ty #[.slice (some ⟨g,0,none⟩) 0 0,.slice s.a s.n s.c]).run Tryz.prog w=.ok (SL.v s') w'∧Below w.heap.size w w'∧TS B w' s' zs:=by
 have own0:w.ownsRow B 73 1 (.slice (some ⟨g,0,none⟩) 0 0) 0 []:=⟨rfl,.inr ⟨g,0,#[],rfl,hg,hq,Nat.le_refl _,by unfold maxLen;omega,rfl,rfl⟩⟩
 obtain⟨s',w',hr,hn,hb,ho⟩:=run_copy_own w g B ty s zs hs hl own0 hB
 refine⟨s',w',hr,hb,?_⟩
 have hlen:=hs.reads.len
 obtain⟨a,c,e,hre⟩:=own_reads (k:=.i8) ho (by omega) hs.reads.wf_mem (fun j hj=>copy_at .i8 zs j (by omega))
 have e':s'=⟨a,s'.n,c⟩:=SL.v_inj e
 rcases ho.2 with⟨h1,h2⟩|⟨g',cap,cur,h1,h2,h3,h4,_⟩
 ·have:s'=⟨none,0,0⟩:=SL.v_inj h1
  subst this
  have ha:a=none:=by simp at e';exact e'.1.symm
  subst ha
  exact⟨⟨hre,fun _=>rfl,Nat.le_refl _⟩,fun x hx=>by cases hx⟩
 ·have e2:s'=⟨some ⟨g',0,none⟩,s'.n,cap⟩:=SL.v_inj h1
  have ha:a=some ⟨g',0,none⟩:=by rw[e2] at e';simp at e';exact e'.1.symm
  have hc:c=cap:=by rw[e2] at e';simp at e';exact e'.2.symm
  subst ha
  subst hc
  rw[e2]
  exact⟨⟨by simpa using hre,(fun h=>by cases h),h4⟩,fun x hx=>by obtain rfl:=Option.some.inj hx;exact⟨h2,cur,(0,0),h3⟩⟩
end
section
theorem TG.below {B B':Nat}{w w':World}{v:Value}{k:Nat}{R:Nat→SL}{Z:Nat→List Int}(h:TG B w v k R Z)(hb:Below w.heap.size w w'):TG B w' v k R Z:=h.step (Keeps.of_below hb) (Keeps.of_below hb)
theorem TL.below {B:Nat}{w w':World}{v:Value}{n:Nat}{Y U D:Nat→Nat→SL}{m:ModV}(h:TL B w v n Y U D m)(hb:Below w.heap.size w w'):TL B w' v n Y U D m:=⟨(Keeps.of_below hb).own h.own,fun i hi=>(h.lay i hi).step (Keeps.of_below hb) (Keeps.of_below hb)⟩
theorem TS.le {B B':Nat}{w:World}{s:SL}{zs:List Int}(h:TS B w s zs)(hb:B'≤B):TS B' w s zs:=⟨h.is,fun x hx=>⟨Nat.le_trans hb (h.blk x hx).1,(h.blk x hx).2⟩⟩
theorem TG.le {B B':Nat}{w:World}{v:Value}{k:Nat}{R:Nat→SL}{Z:Nat→List Int}(h:TG B w v k R Z)(hb:B'≤B):TG B' w v k R Z:=by
 refine⟨⟨h.own.1,?_⟩,fun j hj=>(h.row j hj).le hb⟩
 rcases h.own.2 with h2|⟨g,cap,cur,hv,hg,r⟩
 ·exact .inl h2
 ·exact .inr ⟨g,cap,cur,hv,by omega,r⟩
theorem TL.le {B B':Nat}{w:World}{v:Value}{n:Nat}{Y U D:Nat→Nat→SL}{m:ModV}(h:TL B w v n Y U D m)(hb:B'≤B):TL B' w v n Y U D m:=by
 refine⟨⟨h.own.1,?_⟩,fun i hi=>⟨fun j hj=>((h.lay i hi).f j hj).le hb,(h.lay i hi).u.le hb,(h.lay i hi).d.le hb⟩⟩
 rcases h.own.2 with h2|⟨g,cap,cur,hv,hg,r⟩
 ·exact .inl h2
 ·exact .inr ⟨g,cap,cur,hv,by omega,r⟩
end
section
theorem own_typed {w:World}{B n c:Nat}{a:Option Addr}{nn:Nat}{xs:List Value}(h:w.ownsRow B 73 1 (.slice a n c) nn xs):∀ y,a=some y→∃ cur fz,w.heap[y.block]? = some (Obj.cells cur 73 fz):=by
 intro y hy
 rcases h.2 with⟨h1,_⟩|⟨g,cap,cur,h1,_,h2,_⟩
 ·rw[hy] at h1;simp at h1
 ·simp only[Value.slice.injEq] at h1
  have e:y=⟨g,0,none⟩:=Option.some.inj (hy.symm.trans h1.1)
  rw[e]
  exact⟨cur,(0,0),h2⟩
theorem next_typed (cb k n c:Nat)(x:Addr)(zs:List Int)(W:World)(hq:Blk 113 W cb #[.slice (some x) n c])(hr:Reads .i8 W (some x) n zs)(hk:k≤n)(hc:n≤c)(hn:n≤100000) :
  Calls Tryz.prog 81 #[.pointer (some ⟨cb,0,none⟩),.int .i64 (k:Int)] W fun e W'=>∃ (s:SL) (y:Addr),e=.returned (.slice s.a s.n s.c)∧s.n=k∧TS W.heap.size W' s (zs.take k) ∧
   Blk 113 W' cb #[.slice (some y) (n-k) (c-k)]∧y.block=x.block∧Reads .i8 W (some y) (n-k) (zs.drop k)∧n-k≤c-k∧Only cb W W':=by
 obtain⟨i0,hi,hz0,hz1,hz2⟩:=i46
 have c0:W.cell? ⟨cb,0,none⟩=some (.slice (some x) n c):=hq.cell 0 rfl
 have hkc:(k:Int)≤(c:Int):=by omega
 have hkn:(k:Int)≤(n:Int):=by omega
 have k0:(0:Int)≤(k:Int):=by omega
 obtain⟨y,ey,yb,ry⟩:∃ y:Addr,(if c=k then some x else some (x.add k))=some y∧y.block=x.block∧Reads .i8 W (some y) (n-k) (zs.drop k):=by
  by_cases e:c=k
  ·refine⟨x,by rw[if_pos e],rfl,?_⟩
   have hl:=hr.len
   rw[show n-k=0 by omega,List.drop_eq_nil_of_le (by omega)]
   exact⟨rfl,by omega,fun i=>by simpa using wf_nought .i8,fun h=>by omega,fun _ _ i hi=>by omega⟩
  ·refine⟨x.add k,by rw[if_neg e],by unfold Addr.add;split<;>rfl,?_⟩
   have:=hr.cut k (n-k) (by omega)
   rwa [List.take_of_length_le (by rw[List.length_drop,hr.len];omega)] at this
 have hcb:=hq.lt
 have key:∀ W1,Below W.heap.size W W1→W1.cell? ⟨cb,0,none⟩=some (.slice (some x) n c)∧W1.frozen? ⟨cb,0,none⟩=false∧Hid (Blk 113 W1 cb #[.slice (some x) n c]):=fun W1 hb=>⟨(hq.kept hb).cell 0 rfl,(hq.kept hb).open_ 0,hq.kept hb⟩
 have rt:Reads .i8 W (some x) k (zs.take k):=by have:=hr.cut 0 k (by omega);simpa [Addr.add] using this
 have rt':Reads .i8 (W.alloc (.cells #[] 73)) (some x) k (zs.take k):=rt.below (bNw (Below.refl _ _) _)
 have c0':(W.alloc (.cells #[] 73)).cell? ⟨cb,0,none⟩=some (.slice (some x) n c):=(hq.kept (bNw (Below.refl _ _) _)).cell 0 rfl
 have own0:(W.alloc (.cells #[] 73)).ownsRow W.heap.size 73 1 (.slice (some ⟨W.heap.size,0,none⟩) 0 0) 0 []:=World.ownsRow_lit (base:=W.heap.size) (size:=1) W #[] 0 (Nat.le_refl _) (by unfold maxLen;omega) (by simp)
 have HK:=hdn key
 clear key hq
 go_enter Tryz.func81,Tryz.ntmps81
 go_wp2_with (first
  | (at_builtin;refine wpList_copy rfl _ _ 24 rfl W.heap.size 73 i0 (.int .i8 0) 1 Tryz.underlying24 hi hz0 hz1 hz2 rfl _ 0 [] rfl own0 .i8 (some x) k c (zs.take k) rfl rt' (by intro h;cases h) (by unfold maxLen;omega) (by omega) (by simp) ?_;intro v1 W1 ho hg;obtain⟨b,cb1,rfl,r1,hb,f1,f2,f3⟩:=copied1 ho hg rt;have ty:=own_typed ho;obtain⟨g1,g2,g3⟩:=HK.out W1 hb;clear ho hg own0 c0'))
 go_ret
 refine⟨⟨b,k,cb1⟩,y,rfl,rfl,?_,g3.out.set 0 _,yb,ry,by omega,(Only.of_below hb).trans (Only.set _ _ _ _)⟩
 have base:TS W.heap.size W1 ⟨b,k,cb1⟩ (zs.take k):=⟨⟨r1,f1,f2⟩,fun z hz=>⟨f3 z hz,ty z hz⟩⟩
 exact base.step (Keeps.of_only (Only.set cb 0 W1 _) g3.out (by decide))
def CutAt (w:World)(xb sb N:Nat)(ws:List Int)(T:Nat):Prop:=∃ (y:Addr) (c:Nat),Blk 113 w xb #[.slice (some y) (N-T) c]∧y.block=sb∧Reads .i8 w (some y) (N-T) (ws.drop T)∧N-T≤c
theorem CutAt.below {w w':World}{xb sb N:Nat}{ws:List Int}{T:Nat}(h:CutAt w xb sb N ws T)(hb:Below w.heap.size w w'):CutAt w' xb sb N ws T:=by
 obtain⟨y,c,q,e,r,l⟩:=h
 exact⟨y,c,q.kept hb,e,r.below hb,l⟩
theorem CutAt.only {w w':World}{xb sb N g:Nat}{ws:List Int}{T:Nat}(h:CutAt w xb sb N ws T)(o:Only g w w')(h1:xb≠g)(h2:sb≠g):CutAt w' xb sb N ws T:=by
 obtain⟨y,c,q,e,r,l⟩:=h
 exact⟨y,c,(o.block xb q.lt (fun k=>h1 (by simpa using k))).trans q,e,r.other o (fun x hx _=>by obtain rfl:=Option.some.inj hx;omega),l⟩
theorem next_seg {W:World}{xb sb N:Nat}{ws:List Int}{cnt:Nat→Nat}{k:Nat}(hc:CutAt W xb sb N ws (offs cnt k))(hfit:offs cnt (k+1)≤N)(hN:N≤100000)(hsb:sb≠xb) :
  Calls Tryz.prog 81 #[.pointer (some ⟨xb,0,none⟩),.int .i64 (cnt k:Int)] W fun e W'=>∃ s:SL,e=.returned (.slice s.a s.n s.c)∧TS W.heap.size W' s (seg cnt ws k)∧CutAt W' xb sb N ws (offs cnt (k+1))∧Only xb W W':=by
 obtain⟨y,c,q,e,r,l⟩:=hc
 have e1:offs cnt (k+1)=offs cnt k+cnt k:=rfl
 refine (next_typed xb (cnt k) (N-offs cnt k) c y (ws.drop (offs cnt k)) W q r (by omega) l (by omega)).mono fun e' W' hh=>?_
 obtain⟨s,z,h1,h2,h3,h4,h5,h6,h7,h8⟩:=hh
 refine⟨s,h1,h3,⟨z,c-cnt k,?_,h5.trans e,?_,?_⟩,h8⟩
 ·rw[e1,show N-(offs cnt k+cnt k)=N-offs cnt k-cnt k by omega]
  exact h4
 ·rw[e1,show N-(offs cnt k+cnt k)=N-offs cnt k-cnt k by omega,←List.drop_drop]
  exact h6.other h8 (fun x hx _=>by obtain rfl:=Option.some.inj hx;omega)
 ·rw[e1];omega
end
section
theorem run_cfg3 {w:World}{cb:Nat}{d h l v u x t n:Int}(q:Blk 23 w cb #[.int .i64 d,.int .i64 h,.int .i64 l,.int .i64 v,.int .i64 u,.int .i64 x,.int .i64 t,.int .i64 n]):(Instr.fieldAt 23 (.pointer (some ⟨cb,0,none⟩)) 3).run Tryz.prog w=.ok (.pointer (some ⟨cb,3,none⟩)) w∧(Instr.loadAt 3 (.pointer (some ⟨cb,3,none⟩))).run Tryz.prog w=.ok (.int .i64 v) w:=by
 obtain⟨c0,c1,c2,c3,c4,c5,c6,c7⟩:=q.cfg
 constructor
 ·go_simp
 ·go_simp
theorem run_build29 (w:World)(d h l v u x t n:Int)(s:SL):(Instr.build 27 #[(0,.agg #[.int .i64 d,.int .i64 h,.int .i64 l,.int .i64 v,.int .i64 u,.int .i64 x,.int .i64 t,.int .i64 n]),(1,.slice s.a s.n s.c)]).run Tryz.prog w=.ok (.agg #[.int .i64 d,.int .i64 h,.int .i64 l,.int .i64 v,.int .i64 u,.int .i64 x,.int .i64 t,.int .i64 n,.slice s.a s.n s.c,.slice none 0 0,.slice none 0 0,.slice none 0 0]) w:=by
 go_simp
theorem run_store27m {w:World}{b:Nat}(q:Blk 27 w b zeroC)(d h l v u x t n:Int)(s:SL):∃ w',(Instr.storeAt 27 (.pointer (some ⟨b,0,none⟩)) (.agg #[.int .i64 d,.int .i64 h,.int .i64 l,.int .i64 v,.int .i64 u,.int .i64 x,.int .i64 t,.int .i64 n,.slice s.a s.n s.c,.slice none 0 0,.slice none 0 0,.slice none 0 0])).run Tryz.prog w=.ok () w'∧Blk 27 w' b #[.int .i64 d,.int .i64 h,.int .i64 l,.int .i64 v,.int .i64 u,.int .i64 x,.int .i64 t,.int .i64 n,.slice s.a s.n s.c,.slice none 0 0,.slice none 0 0,.slice none 0 0]∧Only b w w':=by
 have q':Blk 27 w b #[.int .i64 0,.int .i64 0,.int .i64 0,.int .i64 0,.int .i64 0,.int .i64 0,.int .i64 0,.int .i64 0,nilS,nilS,nilS,nilS]:=q
 obtain⟨z0,z1,z2,z3,z4,z5,z6,z7,z8,z9,z10,z11⟩:=q'.c12
 obtain⟨o0,o1,o2,o3,o4,o5,o6,o7,o8,o9,o10,o11⟩:=q'.o12
 obtain⟨W6,eW,q6,only,hz⟩:=set12 q' (.int .i64 d) (.int .i64 h) (.int .i64 l) (.int .i64 v) (.int .i64 u) (.int .i64 x) (.int .i64 t) (.int .i64 n) (.slice s.a s.n s.c) (.slice none 0 0) (.slice none 0 0) (.slice none 0 0)
 refine⟨W6,?_,q6,only⟩
 rw[←eW]
 clear eW q6 only hz q q'
 go_simp
def firD (i:Nat):Option Nat:=match i with|0=>some 27|1=>some 28|2=>some 29|3=>some 30|4=>some 31|5=>some 32|6=>some 33|7=>some 34|8=>some 8|_=>none
theorem firD_inj:∀ i,i<10→∀ j,j<10→firD i=firD j→firD i≠none→i=j:=by decide
def firM (d h l v u x t n:Int)(s:SL):Array Value:=#[.int .i64 d,.int .i64 h,.int .i64 l,.int .i64 v,.int .i64 u,.int .i64 x,.int .i64 t,.int .i64 n,.slice s.a s.n s.c,.slice none 0 0,.slice none 0 0,.slice none 0 0]
def firF (d h l v u x t n VD:Int)(xb cb B:Nat)(zs:List Int)(l':Nat→Bool)(i:Nat)(q:Value)(w:World):Prop:=match i with
 | 0=>q=.agg #[.int .i64 d,.int .i64 h,.int .i64 l,.int .i64 v,.int .i64 u,.int .i64 x,.int .i64 t,.int .i64 n]
 | 1=>q=.pointer (some ⟨xb,0,none⟩)
 | 2=>q=.pointer (some ⟨cb,3,none⟩)
 | 3=>q=.int .i64 v
 | 4=>q=.int .i64 d
 | 5=>q=.int .i64 VD
 | 6=>∃ s:SL,q=.slice s.a s.n s.c∧TS B w s zs
 | 7=>∃ s:SL,q=.agg (firM d h l v u x t n s)∧TS B w s zs
 | 8=>∃ b,q=.pointer (some ⟨b,0,none⟩)∧B≤b∧(l' 9=false→Blk 27 w b zeroC)∧(l' 9=true→∃ s:SL,Blk 27 w b (firM d h l v u x t n s)∧TS B w s zs)
 | _=>True
theorem firF_step {d h l v u x t n VD:Int}{xb cb B:Nat}{zs:List Int}{l1 l2:Nat→Bool}{i:Nat}{q:Value}{w w':World}(hh:firF d h l v u x t n VD xb cb B zs l1 i q w)(h9:l2 9=l1 9)(k46:Keeps 73 w w')(k29:Keeps 27 w w'):firF d h l v u x t n VD xb cb B zs l2 i q w':=by
 unfold firF at hh ⊢
 split
 ·exact hh
 ·exact hh
 ·exact hh
 ·exact hh
 ·exact hh
 ·exact hh
 ·obtain⟨s,e1,e2⟩:=hh
  exact⟨s,e1,e2.step k46⟩
 ·obtain⟨s,e1,e2⟩:=hh
  exact⟨s,e1,e2.step k46⟩
 ·obtain⟨b,e1,e2,e3,e4⟩:=hh
  refine⟨b,e1,e2,fun k=>k29.blk (e3 (by rw[←h9];exact k)),fun k=>?_⟩
  obtain⟨s,f1,f2⟩:=e4 (by rw[←h9];exact k)
  exact⟨s,k29.blk f1,f2.step k46⟩
 ·trivial
end
section
theorem Only.new {xb b:Nat}{w0 w w':World}(h:Only xb w0 w)(hb:w0.heap.size≤b)(k:Only b w w'):Only xb w0 w' :=
 ⟨k.os.trans h.os,k.tape.trans h.tape,k.output.trans h.output,Nat.le_trans h.size k.size,fun i hi hn=>(k.block i (Nat.lt_of_lt_of_le hi h.size) (fun e=>by have:=Option.some.inj e;omega)).trans (h.block i hi hn)⟩
theorem Only.drew_ {xb:Nat}{w0 w:World}(h:Only xb w0 w):Only xb w0 { w with drawn:=w.drawn+1 }:=⟨h.os,h.tape,h.output,h.size,h.block⟩
theorem Blk.only {t:TypeId}{w w':World}{b g:Nat}{cs:Array Value}(q:Blk t w b cs)(o:Only g w w')(h:b≠g):Blk t w' b cs:=(o.block b q.lt (fun k=>h (by simpa using k))).trans q
theorem CutAt.lt {w:World}{xb sb N T:Nat}{ws:List Int}(h:CutAt w xb sb N ws T):xb<w.heap.size:=by obtain⟨y,c,q,_⟩:=h;exact q.lt
theorem CutAt.keeps {w w':World}{xb sb N T:Nat}{ws:List Int}(h:CutAt w xb sb N ws T)(o:Only xb w w'){t:TypeId}(ht:t≠113):Keeps t w w':=by obtain⟨y,c,q,_⟩:=h;exact Keeps.of_only o q ht
def firR (xb sb N:Nat)(ws:List Int)(cnt:Nat→Nat)(w0:World)(l:Nat→Bool)(a:Act)(w:World):Prop:=Only xb w0 w∧CutAt w xb sb N ws (offs cnt (if l 6=true then 1 else 0))∧(l 9=true→l 8=true)
theorem Inv.none_' {N:Nat}{D:Nat→Option Nat}{a0:Act}{R:(Nat→Bool)→Act→World→Prop}{F:(Nat→Bool)→Nat→Value→World→Prop}{l:Nat→Bool}{a:Act}{w:World}(h:Inv N D a0 R F l a w){i:Nat}{w':World}(hD:D i=none)(hR:R (fun j=>l j || j==i) a w')(mono:∀ j d,j<N→D j=some d→l j=true→j≠i→F l j (a.tmps.getD d undef) w→F (fun j=>l j || j==i) j (a.tmps.getD d undef) w') :
  Inv N D a0 R F (fun j=>l j || j==i) a w':=by
 refine⟨h.size,h.defers,h.kept,hR,fun j d' hj hDj hl=>?_⟩
 have e:j≠i:=fun e=>by rw[e,hD] at hDj;cases hDj
 have hl':l j=true:=by simpa [e] using hl
 exact mono j d' hj hDj hl' e (h.val j d' hj hDj hl')
theorem first_region {id:Nat}{ops:Array Oper}{Q:Exit→Act→World→Prop}{a0:Act}{w0:World}(d h l v u x t n:Int)(xb cb sb N:Nat)(ws:List Int)(cnt:Nat→Nat)(hB:lowB ops=true)(hsz:ops.size=10)
  (o0:OpAt ops 0 (some 27) (.load 23 (.tmp 2)) []) (o1:OpAt ops 1 (some 28) (.move (.tmp 7)) []) (o2:OpAt ops 2 (some 29) (.fieldAddr 23 (.tmp 2) 3) []) (o3:OpAt ops 3 (some 30) (.load 3 (.tmp 29)) [2]) (o4:OpAt ops 4 (some 31) (.move (.tmp 6)) []) (o5:OpAt ops 5 (some 32) (.binOp .mul 3 (.tmp 30) (.tmp 31) 3) [3,4])
  (o6:OpAt ops 6 (some 33) (.call { callee:=.value (.func 81),args:=#[.tmp 28,.tmp 32],argTypes:=#[111,3] }) [1,5]) (o7:OpAt ops 7 (some 34) (.build 27 #[(0,.tmp 27),(1,.tmp 33)]) [0,6]) (o8:OpAt ops 8 (some 8) (.alloc 27) []) (o9:OpAt ops 9 none (.store 27 (.tmp 8) (.tmp 34)) [7,8])
  (hmul:∀ w,(binOp .mul 3 (.int .i64 v) (.int .i64 d)).run Tryz.prog w=.ok (.int .i64 (cnt 0:Int)) w) (q:Blk 23 w0 cb #[.int .i64 d,.int .i64 h,.int .i64 l,.int .i64 v,.int .i64 u,.int .i64 x,.int .i64 t,.int .i64 n]) (h2:a0.tmps.getD 2 undef=.pointer (some ⟨cb,0,none⟩)) (h7:a0.tmps.getD 7 undef=.pointer (some ⟨xb,0,none⟩)) (h6:a0.tmps.getD 6 undef=.int .i64 d)
  (hc:CutAt w0 xb sb N ws 0) (hfit:cnt 0≤N) (hN:N≤100000) (hsb:sb≠xb) (hcx:cb≠xb) (hsl:sb<w0.heap.size) (hs:35≤a0.tmps.size)
  (fin:∀ a w b (s:SL),a.tmps.size=a0.tmps.size→a.defers=a0.defers→(∀ k,(∀ i,i<10→firD i≠some k)→a.tmps.getD k undef=a0.tmps.getD k undef)→a.tmps.getD 8 undef=.pointer (some ⟨b,0,none⟩)→w0.heap.size≤b→Blk 27 w b (firM d h l v u x t n s)→TS w0.heap.size w s (seg cnt ws 0)→CutAt w xb sb N ws (offs cnt 1)→Only xb w0 w→Q .normal a w):(Code.region id ops true).wp Tryz.prog Q a0 w0:=by
 have hrun:∀ args w,(callFunc 81 args).run Tryz.prog w=.ok (.enter 81 args) w:=enters Tryz.func81 (by kernel_rfl) rfl
 have hxl:=hc.lt
 refine wp_region_inv (by kernel_rfl) hB (Inv 10 firD a0 (firR xb sb N ws cnt w0) (firF d h l v u x t n (cnt 0:Int) xb cb w0.heap.size (seg cnt ws 0))) (Inv.start ⟨(Only.refl xb w0).drew_,by obtain⟨y,c,q1,q2,q3,q4⟩:=hc;exact⟨y,c,q1,q2,⟨q3.len,q3.max,q3.wf,q3.some_,q3.cell⟩,q4⟩,fun h=>by cases h⟩) ?_ ?_
 ·intro l' i o a w ho hl hdep hI
  have hi:i<10:=by rw[←hsz];exact (Array.getElem?_eq_some_iff.1 ho).1
  obtain⟨honly,hcut,d9⟩:=hI.world
  have hsB:=honly.size
  have inj:∀ d,firD i=some d→∀ j d',j<10→firD j=some d'→j≠i→d'≠d:=fun d hd j d' hj hd' hne e=>hne (firD_inj j hj i hi (by rw[hd,hd',e]) (by rw[hd'];simp))
  have ev:∀ (s:Nat),a.eval (.tmp s)=a.tmps.getD s undef:=fun _=>rfl
  have ke:∀ s,(∀ i,i<10→firD i≠some s)→a.eval (.tmp s)=a0.tmps.getD s undef:=fun s hs=>hI.kept s hs
  have qc:Blk 23 w cb #[.int .i64 d,.int .i64 h,.int .i64 l,.int .i64 v,.int .i64 u,.int .i64 x,.int .i64 t,.int .i64 n]:=q.only honly hcx
  have l6:i≠6→(l' 6 || 6==i)=l' 6:=fun h=>by rw[show (6==i)=false by simp;omega,Bool.or_false]
  have l9:i≠9→(l' 9 || 9==i)=l' 9:=fun h=>by rw[show (9==i)=false by simp;omega,Bool.or_false]
  have newW:∀ {d' v' w'},firD i=some d'→d'<35→i≠6→i≠9→Below w.heap.size w w'→(firF d h l v u x t n (cnt 0:Int) xb cb w0.heap.size (seg cnt ws 0)) (fun j=>l' j || j==i) i v' w'→Inv 10 firD a0 (firR xb sb N ws cnt w0) (firF d h l v u x t n (cnt 0:Int) xb cb w0.heap.size (seg cnt ws 0)) (fun j=>l' j || j==i) (a.put (some d') v') w':=fun hD hd n6 n9 hw hF=>hI.put hi hD (by omega) (inj _ hD) ⟨honly.trans (Only.of_below hw),by simp only[l6 n6];exact hcut.below hw,fun h=>by have h':l' 9=true:=(by simpa only[l9 n9] using h);simp[d9 h']⟩ hF fun j u _ _ _ hf=>firF_step hf (l9 n9) (Keeps.of_below hw) (Keeps.of_below hw)
  have pure_:∀ {d' v'},firD i=some d'→d'<35→i≠6→i≠9→(firF d h l v u x t n (cnt 0:Int) xb cb w0.heap.size (seg cnt ws 0)) (fun j=>l' j || j==i) i v' w→Inv 10 firD a0 (firR xb sb N ws cnt w0) (firF d h l v u x t n (cnt 0:Int) xb cb w0.heap.size (seg cnt ws 0)) (fun j=>l' j || j==i) (a.put (some d') v') w:=fun hD hd n6 n9 hF=>newW hD hd n6 n9 (Below.refl _ _) hF
  rcases (show i=0∨i=1∨i=2∨i=3∨i=4∨i=5∨i=6∨i=7∨i=8∨i=9 by omega) with rfl|rfl|rfl|rfl|rfl|rfl|rfl|rfl|rfl|rfl
  ·obtain⟨o',e1,e2,e3,e4,e5⟩:=o0
   obtain rfl:=sOp ho e1
   have dp:=dep_of (ops:=ops) e5 hdep
   refine wVa (v:=.agg #[.int .i64 d,.int .i64 h,.int .i64 l,.int .i64 v,.int .i64 u,.int .i64 x,.int .i64 t,.int .i64 n]) (w':=w) ho e4 ?_ (by rw[e2];exact pure_ rfl (by decide) (by decide) (by decide) rfl)
   simp[execOp,e3,ke 2 (by decide),h2,run_load23 qc]
  ·obtain⟨o',e1,e2,e3,e4,e5⟩:=o1
   obtain rfl:=sOp ho e1
   have dp:=dep_of (ops:=ops) e5 hdep
   refine wVa (v:=.pointer (some ⟨xb,0,none⟩)) (w':=w) ho e4 ?_ (by rw[e2];exact pure_ rfl (by decide) (by decide) (by decide) rfl)
   simp[execOp,e3,ke 7 (by decide),h7]
  ·obtain⟨o',e1,e2,e3,e4,e5⟩:=o2
   obtain rfl:=sOp ho e1
   have dp:=dep_of (ops:=ops) e5 hdep
   refine wVa (v:=.pointer (some ⟨cb,3,none⟩)) (w':=w) ho e4 ?_ (by rw[e2];exact pure_ rfl (by decide) (by decide) (by decide) rfl)
   simp[execOp,e3,ke 2 (by decide),h2,(run_cfg3 qc).1]
  ·obtain⟨o',e1,e2,e3,e4,e5⟩:=o3
   obtain rfl:=sOp ho e1
   have dp:=dep_of (ops:=ops) e5 hdep
   have ev1:a.tmps.getD 29 undef=.pointer (some ⟨cb,3,none⟩):=hI.val 2 29 (by decide) rfl (dp 2 (by decide))
   refine wVa (v:=.int .i64 v) (w':=w) ho e4 ?_ (by rw[e2];exact pure_ rfl (by decide) (by decide) (by decide) rfl)
   simp[execOp,e3,ev,ev1,(run_cfg3 qc).2]
  ·obtain⟨o',e1,e2,e3,e4,e5⟩:=o4
   obtain rfl:=sOp ho e1
   have dp:=dep_of (ops:=ops) e5 hdep
   refine wVa (v:=.int .i64 d) (w':=w) ho e4 ?_ (by rw[e2];exact pure_ rfl (by decide) (by decide) (by decide) rfl)
   simp[execOp,e3,ke 6 (by decide),h6]
  ·obtain⟨o',e1,e2,e3,e4,e5⟩:=o5
   obtain rfl:=sOp ho e1
   have dp:=dep_of (ops:=ops) e5 hdep
   have ev1:a.tmps.getD 30 undef=.int .i64 v:=hI.val 3 30 (by decide) rfl (dp 3 (by decide))
   have ev2:a.tmps.getD 31 undef=.int .i64 d:=hI.val 4 31 (by decide) rfl (dp 4 (by decide))
   refine wVa (v:=.int .i64 (cnt 0:Int)) (w':=w) ho e4 ?_ (by rw[e2];exact pure_ rfl (by decide) (by decide) (by decide) rfl)
   simp[execOp,e3,ev,ev1,ev2,hmul,eqGuard]
  ·obtain⟨o',e1,e2,e3,e4,e5⟩:=o6
   obtain rfl:=sOp ho e1
   have dp:=dep_of (ops:=ops) e5 hdep
   have ev1:a.tmps.getD 28 undef=.pointer (some ⟨xb,0,none⟩):=hI.val 1 28 (by decide) rfl (dp 1 (by decide))
   have ev2:a.tmps.getD 32 undef=.int .i64 (cnt 0:Int):=hI.val 5 32 (by decide) rfl (dp 5 (by decide))
   have hcut':CutAt w xb sb N ws (offs cnt 0):=by rw[hl] at hcut;exact hcut
   refine wCa (f:=81) (args:=#[.pointer (some ⟨xb,0,none⟩),.int .i64 (cnt 0:Int)]) ho e4 ?_ ((next_seg (k:=0) hcut' (by show offs cnt 0+cnt 0≤N;show 0+cnt 0≤N;omega) hN hsb).mono fun e w' hh=>?_)
   ·simp[execOp,e3,resolve,invoke,ev,ev1,ev2,Deferred.ofValue,hrun,show a.eval (.func 81)=.func (.func 81) #[] #[] from rfl]
   ·obtain⟨s,g1,g2,g3,g4⟩:=hh
    refine⟨_,g1,?_⟩
    rw[e2]
    exact hI.put hi rfl (by omega) (inj _ rfl) ⟨honly.trans g4,by simpa using g3,fun h=>by have h':l' 9=true:=(by simpa using h);simp[d9 h']⟩ ⟨s,rfl,g2.le hsB⟩ fun j u' _ _ _ hf=>firF_step hf (l9 (by decide)) (hcut'.keeps g4 (by decide)) (hcut'.keeps g4 (by decide))
  ·obtain⟨o',e1,e2,e3,e4,e5⟩:=o7
   obtain rfl:=sOp ho e1
   have dp:=dep_of (ops:=ops) e5 hdep
   have ev1:a.tmps.getD 27 undef=.agg #[.int .i64 d,.int .i64 h,.int .i64 l,.int .i64 v,.int .i64 u,.int .i64 x,.int .i64 t,.int .i64 n]:=hI.val 0 27 (by decide) rfl (dp 0 (by decide))
   obtain⟨s,ev2,ts⟩:=hI.val 6 33 (by decide) rfl (dp 6 (by decide))
   refine wVa (v:=.agg (firM d h l v u x t n s)) (w':=w) ho e4 ?_ (by rw[e2];exact pure_ rfl (by decide) (by decide) (by decide) ⟨s,rfl,ts⟩)
   simp[execOp,e3,ev,ev1,ev2,run_build29,firM]
  ·obtain⟨o',e1,e2,e3,e4,e5⟩:=o8
   obtain rfl:=sOp ho e1
   have dp:=dep_of (ops:=ops) e5 hdep
   have nd9:l' 9=false:=by
    cases h9:l' 9 with
    | false=>rfl
    | true=>exact absurd (d9 h9) (by rw[hl];simp)
   refine wVa (v:=.pointer (some ⟨w.heap.size,0,none⟩)) (w':=w.alloc (.cells zeroC 27)) ho e4 ?_ (by rw[e2];exact newW rfl (by decide) (by decide) (by decide) (bNw (Below.refl _ _) _) ⟨_,rfl,hsB,fun _=>Blk.new 27 w zeroC,fun h=>by simp[nd9] at h⟩)
   simp[execOp,e3,run_alloc29]
  ·obtain⟨o',e1,e2,e3,e4,e5⟩:=o9
   obtain rfl:=sOp ho e1
   have dp:=dep_of (ops:=ops) e5 hdep
   obtain⟨b,ev1,hbB,hq,-⟩:=hI.val 8 8 (by decide) rfl (dp 8 (by decide))
   obtain⟨s,ev2,ts⟩:=hI.val 7 34 (by decide) rfl (dp 7 (by decide))
   have hq':=hq hl
   obtain⟨w',hrn,hq2,honly'⟩:=run_store27m hq' d h l v u x t n s
   have k46:Keeps 73 w w':=Keeps.of_only honly' hq' (by decide)
   refine wSk (w':=w') ho e4 ?_ ?_
   ·simp[execOp,e3,ev,ev1,ev2,hrn,firM]
   ·rw[e2]
    refine hI.none_' rfl ⟨honly.new hbB honly',by simp only[l6 (show (9:Nat)≠6 by decide)];exact hcut.only honly' (by omega) (by omega),fun _=>by simp[dp 8 (by decide)]⟩ fun j d' hj hDj hlj hne hf=>?_
    rcases (show j=0∨j=1∨j=2∨j=3∨j=4∨j=5∨j=6∨j=7∨j=8 by omega) with rfl|rfl|rfl|rfl|rfl|rfl|rfl|rfl|rfl
    ·exact hf
    ·exact hf
    ·exact hf
    ·exact hf
    ·exact hf
    ·exact hf
    ·obtain⟨s',f1,f2⟩:=hf
     exact⟨s',f1,f2.step k46⟩
    ·obtain⟨s',f1,f2⟩:=hf
     exact⟨s',f1,f2.step k46⟩
    ·obtain rfl:=Option.some.inj hDj
     exact⟨b,ev1,hbB,(fun h=>by simp at h),fun _=>⟨s,hq2,ts.step k46⟩⟩
 ·intro l' a w hall hI
  obtain⟨b,e1,e2,_,e4⟩:=hI.val 8 8 (by decide) rfl (hall 8 (by omega))
  obtain⟨s,e5,e6⟩:=e4 (hall 9 (by omega))
  obtain⟨g1,g2,_⟩:=hI.world
  rw[if_pos (hall 6 (by omega))] at g2
  exact fin a w b s hI.size hI.defers hI.kept e1 e2 e5 e6 g2 g1
end
section
structure AdV where
 ln:Nat
 f:Nat→Nat→List Int
structure AdAt (w:World) (L:SL) (Y:Nat→Nat→SL) (m:AdV):Prop where
 len:L.n=m.ln
 some_:0<m.ln→∃ x,L.a=some x
 nil:L.a=none→L.c=0
 cap:L.n≤L.c
 cell:∀ x,L.a=some x→∀ i,i<m.ln→∀ j,j<4→w.cell? ((x.add (i*4)).add j)=some (Y i j).v
 lay:∀ i,i<m.ln→∀ j,j<4→IsS w (Y i j) (m.f i j)
theorem AdAt.below {w w':World}{L:SL}{Y:Nat→Nat→SL}{m:AdV}(h:AdAt w L Y m)(hb:Below w.heap.size w w'):AdAt w' L Y m :=
 ⟨h.len,h.some_,h.nil,h.cap,fun x hx i hi j hj=>(hb.cell (World.block_lt_of_cell? w _ (h.cell x hx i hi j hj))).trans (h.cell x hx i hi j hj),fun i hi j hj=>(h.lay i hi j hj).below hb⟩
def NewA (base:Nat)(w:World)(L:SL)(Y:Nat→Nat→SL)(m:AdV):Prop:=∀ w',From base w w'→AdAt w' L Y m
theorem NewA.from_ {base:Nat}{w w':World}{L:SL}{Y:Nat→Nat→SL}{m:AdV}(h:NewA base w L Y m)(hf:From base w w'):NewA base w' L Y m:=fun w'' hc=>h w'' (hf.trans hc)
theorem NewA.below {base:Nat}{w w':World}{L:SL}{Y:Nat→Nat→SL}{m:AdV}(h:NewA base w L Y m)(hb:Below w.heap.size w w'):NewA base w' L Y m:=h.from_ (From.of_below hb)
theorem NewA.only {base q:Nat}{w w':World}{L:SL}{Y:Nat→Nat→SL}{m:AdV}(h:NewA base w L Y m)(o:Only q w w')(hq:q<base):NewA base w' L Y m:=h.from_ (From.of_only o hq)
theorem NewA.le {base base':Nat}{w:World}{L:SL}{Y:Nat→Nat→SL}{m:AdV}(h:NewA base w L Y m)(hb:base'≤base):NewA base' w L Y m :=
 fun w'' hc=>h w'' fun p v hp hle=>hc p v hp (Nat.le_trans hb hle)
def noA:AdV:=⟨0,fun _ _=>[]⟩
theorem NewA.none_ (base:Nat)(w:World)(Y:Nat→Nat→SL):NewA base w ⟨none,0,0⟩ Y noA:=fun w' _=>⟨rfl,(fun h=>by cases h),fun _=>rfl,Nat.le_refl _,(fun x hx=>by cases hx),(fun i hi=>by cases hi)⟩
def cells4 (Y:Nat→Nat→SL)(n:Nat):List Value:=(List.range n).flatMap fun i=>(List.range 4).map fun r=>(Y i r).v
theorem cells4_succ (Y:Nat→Nat→SL)(n:Nat):cells4 Y (n+1)=cells4 Y n++(List.range 4).map fun r=>(Y n r).v:=by simp[cells4,List.range_succ]
theorem cells4_len (Y:Nat→Nat→SL)(n:Nat):(cells4 Y n).length=n*4:=by
 induction n with
 | zero=>rfl
 | succ n ih=>rw[cells4_succ,List.length_append,ih];simp;omega
theorem cells4_at (Y:Nat→Nat→SL)(n i r:Nat)(hi:i<n)(hr:r<4):(cells4 Y n)[i*4+r]? = some (Y i r).v:=by
 induction n with
 | zero=>omega
 | succ n ih =>
  rw[cells4_succ]
  have hl:=cells4_len Y n
  by_cases e:i=n
  ·subst e
   rw[List.getElem?_append_right (by omega),hl,show i*4+r-i*4=r by omega]
   simp[hr]
  ·rw[List.getElem?_append_left (by omega)]
   exact ih (by omega)
theorem cells4_congr {Y Y':Nat→Nat→SL}{n:Nat}(h:∀ i,i<n→∀ r,r<4→Y i r=Y' i r):cells4 Y n=cells4 Y' n:=by
 induction n with
 | zero=>rfl
 | succ n ih =>
  rw[cells4_succ,cells4_succ,ih fun i hi=>h i (by omega)]
  congr 1
  exact List.map_congr_left fun r hr=>by rw[h n (by omega) r (List.mem_range.1 hr)]
structure TA (B:Nat) (w:World) (v:Value) (n:Nat) (Y:Nat→Nat→SL) (f:Nat→Nat→List Int):Prop where
 own:w.ownsRow B 61 4 v n (cells4 Y n)
 lay:∀ i,i<n→∀ j,j<4→TS B w (Y i j) (f i j)
theorem TA.nil (B:Nat)(w:World)(Y:Nat→Nat→SL)(f:Nat→Nat→List Int):TA B w (.slice none 0 0) 0 Y f:=⟨World.ownsRow_nil _ _ _ _,fun j hj=>by omega⟩
theorem TA.below {B:Nat}{w w':World}{v:Value}{n:Nat}{Y:Nat→Nat→SL}{f:Nat→Nat→List Int}(h:TA B w v n Y f)(hb:Below w.heap.size w w'):TA B w' v n Y f:=⟨(Keeps.of_below hb).own h.own,fun i hi j hj=>(h.lay i hi j hj).step (Keeps.of_below hb)⟩
theorem TA.new {B:Nat}{w:World}{v:Value}{Y:Nat→Nat→SL}{m:AdV}(h:TA B w v m.ln Y m.f):∃ L:SL,v=L.v∧NewA B w L Y m:=by
 rcases h.own.2 with⟨e,e'⟩|⟨g,cap,cur,e,hg,hh,hcap,hm,_⟩
 ·exact⟨⟨none,0,0⟩,e,fun w' hf=>⟨e'.symm,(fun h=>by omega),fun _=>rfl,Nat.le_refl _,(fun x hx=>by cases hx),fun i hi j hj=>(h.lay i hi j hj).new w' hf⟩⟩
 ·refine⟨⟨some ⟨g,0,none⟩,m.ln,cap⟩,e,fun w' hf=>⟨rfl,fun _=>⟨_,rfl⟩,(fun h=>by cases h),hcap,fun x hx i hi j hj=>?_,fun i hi j hj=>(h.lay i hi j hj).new w' hf⟩⟩
  obtain rfl:=Option.some.inj hx
  have ho:=h.own
  rw[e] at ho
  have c:=ho.cells (g:=g) rfl (i*4+j) (Y i j).v (cells4_at Y m.ln i j hi hj)
  rw[Addr.add_add]
  refine hf _ _ c ?_
  have e2:((⟨g,0,none⟩:Addr).add (i*4+j)).block=g:=by unfold Addr.add;split<;>rfl
  omega
theorem info61:(Tryz.prog.info? 61).map (fun i=>(i.zero,i.size,i.bytes))=some (some (.agg #[nilS,nilS,nilS,nilS]),4,96):=by kernel_rfl
theorem i61':∃ i,Tryz.prog.info? 61=some i∧i.zero=some (.agg #[nilS,nilS,nilS,nilS])∧i.size=4∧i.bytes=96:=by
 have:=info61
 cases h:Tryz.prog.info? 61 with
 | none=>rw[h] at this;cases this
 | some i=>rw[h] at this;simp at this;exact⟨i,rfl,this.1,this.2.1,this.2.2⟩
theorem at_four {w:World}{x:Addr}{i:Nat}{y:Nat→SL}(h:∀ j,j<4→w.cell? ((x.add (i*4)).add j)=some (y j).v) :
  ∃ P,x.add (i*4)=P∧w.cell? P=some (.slice (y 0).a (y 0).n (y 0).c)∧w.cell? ⟨P.block,P.off+1,none⟩=some (.slice (y 1).a (y 1).n (y 1).c)∧w.cell? ⟨P.block,P.off+2,none⟩=some (.slice (y 2).a (y 2).n (y 2).c) ∧
   w.cell? ⟨P.block,P.off+3,none⟩=some (.slice (y 3).a (y 3).n (y 3).c) :=
 ⟨_,rfl,h 0 (by omega),h 1 (by omega),h 2 (by omega),h 3 (by omega)⟩
def okA (R S:Int)(d h l v u x t n:Int):Bool:=okB d h l v u x t n && (decide (1≤R) && (decide (R≤4) && (decide (0≤S) && decide (S≤8))))
def lensA (R d:Int)(m:AdV):Bool:=(List.range m.ln).all fun i=>(List.range 4).all fun j=>decide (((m.f i j).length:Int)=R*d)
theorem lensA_iff {R d:Int}{m:AdV}:lensA R d m=true↔∀ i,i<m.ln→∀ j,j<4→((m.f i j).length:Int)=R*d:=by
 unfold lensA
 simp only[List.all_eq_true,List.mem_range,decide_eq_true_eq]
def checkA (R S d h l v u x t n:Int)(m:AdV):Int:=if okA R S d h l v u x t n=true then (if (m.ln:Int)=l∧lensA R d m=true then 0 else 21) else 20
end
section
theorem set_blk {t:TypeId}{w:World}{b:Nat}{cs cs':Array Value}(q:Blk t w b cs)(i:Nat)(v:Value)(e:cs.setIfInBounds i v=cs'):Blk t (w.setCell ⟨b,i,none⟩ v) b cs':=e ▸ q.set i v
def nine (a b c d e f g h i:SL)(r:Nat):SL:=match r with|0=>a|1=>b|2=>c|3=>d|4=>e|5=>f|6=>g|7=>h|_=>i
end
section
theorem Blk.c3 {t0:TypeId}{w:World}{b:Nat}{x0 x1 x2:Value}(k:Blk t0 w b #[x0,x1,x2]):w.cell? ⟨b,0,none⟩=some x0∧w.cell? ⟨b,1,none⟩=some x1∧w.cell? ⟨b,2,none⟩=some x2:=⟨k.cell 0 rfl,k.cell 1 rfl,k.cell 2 rfl⟩
theorem Blk.o3 {t0:TypeId}{w:World}{b:Nat}{cs:Array Value}(k:Blk t0 w b cs):w.frozen? ⟨b,0,none⟩=false∧w.frozen? ⟨b,1,none⟩=false∧w.frozen? ⟨b,2,none⟩=false:=⟨k.open_ 0,k.open_ 1,k.open_ 2⟩
theorem Blk.c4 {t0:TypeId}{w:World}{b:Nat}{x0 x1 x2 x3:Value}(k:Blk t0 w b #[x0,x1,x2,x3]):w.cell? ⟨b,0,none⟩=some x0∧w.cell? ⟨b,1,none⟩=some x1∧w.cell? ⟨b,2,none⟩=some x2∧w.cell? ⟨b,3,none⟩=some x3:=⟨k.cell 0 rfl,k.cell 1 rfl,k.cell 2 rfl,k.cell 3 rfl⟩
theorem set3 {t:TypeId}{W:World}{b:Nat}{x0 x1 x2:Value}(h:Blk t W b #[x0,x1,x2])(v0 v1 v2:Value) :
  ∃ W',((W.setCell ⟨b,0,none⟩ v0).setCell ⟨b,1,none⟩ v1).setCell ⟨b,2,none⟩ v2=W'∧Blk t W' b #[v0,v1,v2]∧Only b W W'∧W'.heap.size=W.heap.size:=by
 have q0:Blk t (W.setCell ⟨b,0,none⟩ v0) b #[v0,x1,x2]:=set_blk h 0 v0 rfl
 have q1:Blk t ((W.setCell ⟨b,0,none⟩ v0).setCell ⟨b,1,none⟩ v1) b #[v0,v1,x2]:=set_blk q0 1 v1 rfl
 have q2:Blk t (((W.setCell ⟨b,0,none⟩ v0).setCell ⟨b,1,none⟩ v1).setCell ⟨b,2,none⟩ v2) b #[v0,v1,v2]:=set_blk q1 2 v2 rfl
 exact⟨_,rfl,q2,((Only.set b 0 W v0).trans (Only.set b 1 _ v1)).trans (Only.set b 2 _ v2),by simp⟩
end
section
theorem mdneed_yes (n:Int)(w:World):Calls Tryz.prog 56 #[.bool true,.int .i64 n] w fun e w'=>e=.returned (.tuple #[])∧w'=w:=by
 have hnot:∀ (x:Bool) (w:World),(Op.unary .not (.bool x)).run Tryz.prog w=.ok (.bool (!x)) w:=fun _ _=>rfl
 go_enter Tryz.func56,Tryz.ntmps56
 go_wp2
 go_end0
 exact⟨rfl,rfl⟩
theorem mdneed_no (n:Int)(w:World):Calls Tryz.prog 56 #[.bool false,.int .i64 n] w fun e w'=>e=.panicked [{ v:=.iface 35 (.int .i64 n),recovered:=false }]∧w'=w:=by
 have hnot:∀ (x:Bool) (w:World),(Op.unary .not (.bool x)).run Tryz.prog w=.ok (.bool (!x)) w:=fun _ _=>rfl
 go_enter Tryz.func56,Tryz.ntmps56
 go_wp2
 exact⟨rfl,rfl,rfl⟩
theorem mdmust_yes (a:Option Addr)(n c:Nat)(w:World):Calls Tryz.prog 48 #[.slice a n c,.int .i64 0] w fun e w'=>e=.returned (.slice a n c)∧w'=w:=by
 have kn:=mdneed_yes 0
 go_enter Tryz.func48,Tryz.ntmps48
 go_wp2_with (go_at_call 56;refine (kn _).mono ?_;rintro e w' ⟨rfl,rfl⟩)
 go_ret
 exact⟨rfl,rfl⟩
theorem mdcaught_nil (w:World):Calls Tryz.prog 28 #[.nilIface] w fun e w'=>e=.returned (.int .i64 0)∧w'=w:=by
 go_enter Tryz.func28,Tryz.ntmps28
 go_wp2
 go_ret
 exact⟨rfl,rfl⟩
theorem mdcaught_err (n:Int)(w:World):Calls Tryz.prog 28 #[.iface 35 (.int .i64 n)] w fun e w'=>e=.returned (.int .i64 n)∧w'=w:=by
 have ha:∀ W,(Instr.typeAssert (.iface 35 (.int .i64 n)) 20 35 true).run Tryz.prog W=.ok (.tuple #[.int .i64 n,.bool true]) W:=fun W=>by kernel_rfl
 have he:∀ W,(binOp .eql 20 (.iface 35 (.int .i64 n)) .nilIface).run Tryz.prog W=.ok (.bool false) W:=fun W=>by kernel_rfl
 go_enter Tryz.func28,Tryz.ntmps28
 go_wp2
 go_ret
 exact⟨rfl,rfl⟩
theorem catch_panic43 (p:Addr)(x n:Int)(older:List PanicEntry)(w:World)(hc:w.cell? p=some (.int .i64 x))(hz:w.frozen? p=false) :
  CallsD Tryz.prog 43 #[.pointer (some p)] (.panicking ({ v:=.iface 35 (.int .i64 n),recovered:=false } :: older)) w fun e u' w' =>
   e=.returned (.tuple #[])∧u'=.panicking ({ v:=.iface 35 (.int .i64 n),recovered:=true } :: older)∧w'=w.setCell p (.int .i64 n):=by
 refine callsD_of_wpS Tryz.func43 rfl fun c₀ cs hu=>?_
 have r22:∀ args w,(callFunc 28 args).run Tryz.prog w=.ok (.enter 28 args) w:=eNo Tryz.func28 (by kernel_rfl) rfl
 apply wpS_region
 simp[wpOpsS,go_sem,recoverD,hu,Tryz.ntmps43,Exit.thenS,r22,Oper.upon]
 refine (mdcaught_err n w).mono ?_
 rintro e w' ⟨rfl,rfl⟩
 simp[wpOpsS,go_sem,hc,hz,bodyPostS,results,Tryz.results43,Oper.upon]
theorem catch_idle27 (p:Addr)(x:Int)(w:World)(hc:w.cell? p=some (.int .i64 x))(hz:w.frozen? p=false) :
  CallsD Tryz.prog 27 #[.pointer (some p)] .returning w fun e u' w'=>e=.returned (.tuple #[])∧u'=.returning∧w'=w.setCell p (.int .i64 0):=by
 refine callsD_of_wpS Tryz.func27 rfl fun c₀ cs hu=>?_
 have r22:∀ args w,(callFunc 28 args).run Tryz.prog w=.ok (.enter 28 args) w:=eNo Tryz.func28 (by kernel_rfl) rfl
 apply wpS_region
 simp[wpOpsS,go_sem,recoverD,hu,Tryz.ntmps27,Exit.thenS,r22,Oper.upon]
 refine (mdcaught_nil w).mono ?_
 rintro e w' ⟨rfl,rfl⟩
 cases c₀
 simp_all [wpOpsS,go_sem,hc,hz,bodyPostS,results,Tryz.results27,Oper.upon]
theorem catch_idle43 (p:Addr)(x:Int)(w:World)(hc:w.cell? p=some (.int .i64 x))(hz:w.frozen? p=false) :
  CallsD Tryz.prog 43 #[.pointer (some p)] .returning w fun e u' w'=>e=.returned (.tuple #[])∧u'=.returning∧w'=w.setCell p (.int .i64 0):=by
 refine callsD_of_wpS Tryz.func43 rfl fun c₀ cs hu=>?_
 have r22:∀ args w,(callFunc 28 args).run Tryz.prog w=.ok (.enter 28 args) w:=eNo Tryz.func28 (by kernel_rfl) rfl
 apply wpS_region
 simp[wpOpsS,go_sem,recoverD,hu,Tryz.ntmps43,Exit.thenS,r22,Oper.upon]
 refine (mdcaught_nil w).mono ?_
 rintro e w' ⟨rfl,rfl⟩
 cases c₀
 simp_all [wpOpsS,go_sem,hc,hz,bodyPostS,results,Tryz.results43,Oper.upon]
theorem catch_idle45 (p:Addr)(x:Int)(w:World)(hc:w.cell? p=some (.int .i64 x))(hz:w.frozen? p=false) :
  CallsD Tryz.prog 45 #[.pointer (some p)] .returning w fun e u' w'=>e=.returned (.tuple #[])∧u'=.returning∧w'=w.setCell p (.int .i64 0):=by
 refine callsD_of_wpS Tryz.func45 rfl fun c₀ cs hu=>?_
 have r22:∀ args w,(callFunc 28 args).run Tryz.prog w=.ok (.enter 28 args) w:=eNo Tryz.func28 (by kernel_rfl) rfl
 apply wpS_region
 simp[wpOpsS,go_sem,recoverD,hu,Tryz.ntmps45,Exit.thenS,r22,Oper.upon]
 refine (mdcaught_nil w).mono ?_
 rintro e w' ⟨rfl,rfl⟩
 cases c₀
 simp_all [wpOpsS,go_sem,hc,hz,bodyPostS,results,Tryz.results45,Oper.upon]
theorem mdmustM_yes (d h l v u x t n:Int)(E L N O:SL)(w:World):Calls Tryz.prog 46 #[.agg #[.int .i64 d,.int .i64 h,.int .i64 l,.int .i64 v,.int .i64 u,.int .i64 x,.int .i64 t,.int .i64 n,.slice E.a E.n E.c,.slice L.a L.n L.c,.slice N.a N.n N.c,.slice O.a O.n O.c],.int .i64 0] w fun e w'=>e=.returned (.agg #[.int .i64 d,.int .i64 h,.int .i64 l,.int .i64 v,.int .i64 u,.int .i64 x,.int .i64 t,.int .i64 n,.slice E.a E.n E.c,.slice L.a L.n L.c,.slice N.a N.n N.c,.slice O.a O.n O.c])∧Below w.heap.size w w':=by
 have kn:=mdneed_yes 0
 have hb:=bNw (bNw (Below.refl w.heap.size w) (.cells #[.int .i64 d,.int .i64 h,.int .i64 l,.int .i64 v,.int .i64 u,.int .i64 x,.int .i64 t,.int .i64 n,.slice E.a E.n E.c,.slice L.a L.n L.c,.slice N.a N.n N.c,.slice O.a O.n O.c] 27)) (.cells #[.int .i64 0,.int .i64 0,.int .i64 0,.int .i64 0,.int .i64 0,.int .i64 0,.int .i64 0,.int .i64 0,.slice none 0 0,.slice none 0 0,.slice none 0 0,.slice none 0 0] 27)
 have q1:Blk 27 ((w.alloc (.cells #[.int .i64 d,.int .i64 h,.int .i64 l,.int .i64 v,.int .i64 u,.int .i64 x,.int .i64 t,.int .i64 n,.slice E.a E.n E.c,.slice L.a L.n L.c,.slice N.a N.n N.c,.slice O.a O.n O.c] 27)).alloc (.cells #[.int .i64 d,.int .i64 h,.int .i64 l,.int .i64 v,.int .i64 u,.int .i64 x,.int .i64 t,.int .i64 n,.slice E.a E.n E.c,.slice L.a L.n L.c,.slice N.a N.n N.c,.slice O.a O.n O.c] 27)) (w.heap.size+1) #[.int .i64 d,.int .i64 h,.int .i64 l,.int .i64 v,.int .i64 u,.int .i64 x,.int .i64 t,.int .i64 n,.slice E.a E.n E.c,.slice L.a L.n L.c,.slice N.a N.n N.c,.slice O.a O.n O.c]:=Blk.new_at 27 (w.alloc _) _ _ (by simp)
 have hb':=bNw (bNw (Below.refl w.heap.size w) (.cells #[.int .i64 d,.int .i64 h,.int .i64 l,.int .i64 v,.int .i64 u,.int .i64 x,.int .i64 t,.int .i64 n,.slice E.a E.n E.c,.slice L.a L.n L.c,.slice N.a N.n N.c,.slice O.a O.n O.c] 27)) (.cells #[.int .i64 d,.int .i64 h,.int .i64 l,.int .i64 v,.int .i64 u,.int .i64 x,.int .i64 t,.int .i64 n,.slice E.a E.n E.c,.slice L.a L.n L.c,.slice N.a N.n N.c,.slice O.a O.n O.c] 27)
 have HQ:=hdn q1
 clear q1 hb
 go_enter Tryz.func46,Tryz.ntmps46
 go_wp2_with (go_at_call 56;refine (kn _).mono ?_;rintro e w' ⟨rfl,rfl⟩)
 obtain⟨y0,y1,y2,y3,y4,y5,y6,y7,y8,y9,y10,y11⟩:=HQ.out.c12
 refine bodyPost_ret (v:=.agg #[.int .i64 d,.int .i64 h,.int .i64 l,.int .i64 v,.int .i64 u,.int .i64 x,.int .i64 t,.int .i64 n,.slice E.a E.n E.c,.slice L.a L.n L.c,.slice N.a N.n N.c,.slice O.a O.n O.c]) ?_ rfl ⟨rfl,hb'⟩
 simp[results,Tryz.results46,go_sem,y0,y1,y2,y3,y4,y5,y6,y7,y8,y9,y10,y11]
theorem mdmustA_yes (R S:Int)(L:SL)(w:World):Calls Tryz.prog 54 #[.agg #[.int .i64 R,.int .i64 S,.slice L.a L.n L.c],.int .i64 0] w fun e w'=>e=.returned (.agg #[.int .i64 R,.int .i64 S,.slice L.a L.n L.c])∧Below w.heap.size w w':=by
 have kn:=mdneed_yes 0
 have hb:=bNw (bNw (Below.refl w.heap.size w) (.cells #[.int .i64 R,.int .i64 S,.slice L.a L.n L.c] 30)) (.cells #[.int .i64 0,.int .i64 0,.slice none 0 0] 30)
 have q1:Blk 30 ((w.alloc (.cells #[.int .i64 R,.int .i64 S,.slice L.a L.n L.c] 30)).alloc (.cells #[.int .i64 R,.int .i64 S,.slice L.a L.n L.c] 30)) (w.heap.size+1) #[.int .i64 R,.int .i64 S,.slice L.a L.n L.c]:=Blk.new_at 30 (w.alloc _) _ _ (by simp)
 have hb':=bNw (bNw (Below.refl w.heap.size w) (.cells #[.int .i64 R,.int .i64 S,.slice L.a L.n L.c] 30)) (.cells #[.int .i64 R,.int .i64 S,.slice L.a L.n L.c] 30)
 have HQ:=hdn q1
 clear q1 hb
 go_enter Tryz.func54,Tryz.ntmps54
 go_wp2_with (go_at_call 56;refine (kn _).mono ?_;rintro e w' ⟨rfl,rfl⟩)
 obtain⟨y0,y1,y2⟩:=HQ.out.c3
 refine bodyPost_ret (v:=.agg #[.int .i64 R,.int .i64 S,.slice L.a L.n L.c]) ?_ rfl ⟨rfl,hb'⟩
 simp[results,Tryz.results54,go_sem,y0,y1,y2]
end
section
def P0 (l:Nat)(D VD:Nat)(m:ModV):Prop:=m.ln=l∧m.e.length=VD∧m.nm.length=D∧m.o.length=VD
def Ly (D DD XD ne:Nat)(m:ModV)(i:Nat):Prop:=(∀ r,r<7→(m.f i r).length=preC D DD XD r)∧m.un i=ne∧m.dn i=ne
def Nt (UD:Nat)(m:ModV)(i j:Nat):Prop:=(m.u i j).length=UD∧(m.d i j).length=UD
def AllR (l D DD XD UD VD ne:Nat)(m:ModV):Prop:=P0 l D VD m∧∀ i,i<m.ln→Ly D DD XD ne m i∧∀ j,j<ne→Nt UD m i j
theorem chk_iff {d h l v u x t n:Int}(ok:okB d h l v u x t n=true)(m:ModV):(AllR l.toNat d.toNat (d*d).toNat (x*d).toNat (u*d).toNat (v*d).toNat (netsN x) m→checkB d h l v u x t n m=0)∧(¬AllR l.toNat d.toNat (d*d).toNat (x*d).toNat (u*d).toNat (v*d).toNat (netsN x) m→checkB d h l v u x t n m=21):=by
 have dm:=dims_of ok
 have to0:AllR l.toNat d.toNat (d*d).toNat (x*d).toNat (u*d).toNat (v*d).toNat (netsN x) m→checkB d h l v u x t n m=0:=fun ⟨⟨h1,h2,h3,h4⟩,hall⟩=>by
  have fr:framedB l x m=true:=decide_eq_true ⟨by rw[h1];exact dm.el.symm,fun i hi=>by
   obtain⟨⟨_,u1,u2⟩,_⟩:=hall i hi
   rw[u1,u2]
   exact⟨dm.en.symm,dm.en.symm⟩⟩
  unfold checkB
  rw[ok,fr]
  show lensZ _ _ _=0
  refine lens_ok _ _ _ fun k hk=>?_
  unfold allT at hk
  unfold cntOf
  rcases plan_cases l.toNat (netsN x) k hk with rfl|⟨i,r,hi,hr,rfl⟩|⟨i,j,hi,hj,rfl|rfl⟩|rfl|rfl
  ·exact h2
  ·rw[planC_list i r hi hr,seqOf_list m _ i r (by omega) hr]
   exact (hall i (by omega)).1.1 r hr
  ·rw[planC_up i j hi hj,seqOf_up m _ i j (by omega) hj]
   exact ((hall i (by omega)).2 j hj).1
  ·rw[planC_down i j hi hj,seqOf_down m _ i j (by omega) hj]
   exact ((hall i (by omega)).2 j hj).2
  ·rw[planC_norm]
   rw[←h1,seqOf_norm]
   exact h3
  ·rw[planC_out]
   rw[←h1,seqOf_out]
   exact h4
 refine⟨to0,fun hn=>?_⟩
 have z21:∀ (S:Nat→List Int) (cnt:Nat→Nat) T,lensZ S cnt T=0∨lensZ S cnt T=21:=fun S cnt T=>by
  induction T with
  | zero=>exact .inl rfl
  | succ T ih =>
   show (if _ then _ else _)=_∨(if _ then _ else _)=_
   split
   ·exact ih
   ·exact .inr rfl
 have c:checkB d h l v u x t n m=0∨checkB d h l v u x t n m=21:=by
  unfold checkB
  rw[ok]
  show (if framedB l x m=true then _ else _)=_∨(if framedB l x m=true then _ else _)=_
  split
  ·exact z21 _ _ _
  ·exact .inr rfl
 rcases c with c|c
 ·exfalso
  apply hn
  obtain⟨_,hln,hun,hlen⟩:=checked c
  unfold cntOf allT at hlen
  have ip:∀ i r,i<l.toNat→r<pl (netsN x)→1+i*pl (netsN x)+r<1+l.toNat*pl (netsN x)+2:=fun i r hi hr=>by
   have:(i+1)*pl (netsN x)≤l.toNat*pl (netsN x):=Nat.mul_le_mul_right _ (by omega)
   rw[Nat.add_mul] at this
   omega
  refine⟨⟨hln,hlen 0 (by omega),?_,?_⟩,fun i hi=>⟨⟨fun r hr=>?_,hun i hi⟩,fun j hj=>⟨?_,?_⟩⟩⟩
  ·have:=hlen (1+l.toNat*pl (netsN x)) (by omega)
   rwa [planC_norm,←hln,seqOf_norm] at this
  ·have:=hlen (1+l.toNat*pl (netsN x)+1) (by omega)
   rwa [planC_out,←hln,seqOf_out] at this
  ·have:=hlen _ (ip i r (by omega) (by unfold pl;omega))
   rwa [planC_list i r (by omega) hr,seqOf_list m _ i r hi hr] at this
  ·have q:=ip i (7+2*j) (by omega) (by unfold pl;omega)
   have:=hlen (1+i*pl (netsN x)+7+2*j) (by omega)
   rwa [planC_up i j (by omega) hj,seqOf_up m _ i j hi hj] at this
  ·have q:=ip i (7+2*j+1) (by omega) (by unfold pl;omega)
   have:=hlen (1+i*pl (netsN x)+7+2*j+1) (by omega)
   rwa [planC_down i j (by omega) hj,seqOf_down m _ i j hi hj] at this
 ·exact c
end
section
structure Md where
 d:Int
 h:Int
 l:Int
 v:Int
 u:Int
 x:Int
 t:Int
 n:Int
 m:ModV
 r:Int
 s:Int
 a:AdV
def Md.D (M:Md):Nat:=M.d.toNat
def Md.H (M:Md):Nat:=M.h.toNat
def plusL (xs ys:List Int):List Int:=(List.range xs.length).map (plusZ xs ys)
def graftL (M:Md)(i j:Nat)(y hh:List Int):List Int:=if M.r=0 then y else plusL y (applR (M.a.f i j) (M.a.f i (j+1)) M.r M.s hh)
def nrmL (M:Md)(i:Nat)(x:List Int):List Int:=rmsZ x (M.m.f i 0) M.D
def qL (M:Md)(p:Int)(i:Nat)(x:List Int):List Int:=headsL (graftL M i 0 (matL (M.m.f i 1) (nrmL M i x)) (nrmL M i x)) p (M.D/M.H) M.H
def kL (M:Md)(p:Int)(i:Nat)(x:List Int):List Int:=headsL (matL (M.m.f i 2) (nrmL M i x)) p (M.D/M.H) M.H
def vL (M:Md)(i:Nat)(x:List Int):List Int:=graftL M i 2 (matL (M.m.f i 3) (nrmL M i x)) (nrmL M i x)
def partL (P:Nat→List Int)(c f d:Nat)(last:List Int)(r:Nat):List Int:=if r<c then ((P r).drop f).take d else last
def keysL (M:Md)(p:Int)(P:Nat→List Int)(c i:Nat)(x:List Int):Nat→List Int:=partL P c (2*i*M.D) M.D (kL M p i x)
def valsL (M:Md)(P:Nat→List Int)(c i:Nat)(x:List Int):Nat→List Int:=partL P c (2*i*M.D+M.D) M.D (vL M i x)
def oL (M:Md)(p:Int)(P:Nat→List Int)(c i:Nat)(x:List Int):List Int:=allL (qL M p i x) (keysL M p P c i x) (valsL M P c i x) (M.D/M.H) (c+1) M.H
def w1L (M:Md)(i:Nat)(x o:List Int):List Int:=plusL x (matL (M.m.f i 4) o)
def wkL (M:Md)(i:Nat)(x o:List Int):List Int:=plusL (w1L M i x o) (mixL (M.m.f i 6) (M.m.un i) (M.m.u i) (M.m.d i) M.t (rmsZ (w1L M i x o) (M.m.f i 5) M.D))
def embL (M:Md)(tok:Nat):List Int:=(List.range M.D).map fun j=>M.m.e.getD (tok*M.D+j) 0*1024
def stX (M:Md)(p:Int)(P:Nat→List Int)(c tok:Nat):Nat→List Int
 | 0=>embL M tok
 | i+1=>wkL M i (stX M p P c tok i) (oL M p P c i (stX M p P c tok i))
def stR (M:Md)(p:Int)(P:Nat→List Int)(c tok:Nat):Nat→List Int
 | 0=>[]
 | i+1=>stR M p P c tok i++(kL M p i (stX M p P c tok i)++vL M i (stX M p P c tok i))
def rowL (M:Md)(p:Int)(P:Nat→List Int)(c tok:Nat):List Int:=stR M p P c tok M.m.ln
def outL (M:Md)(p:Int)(P:Nat→List Int)(c tok:Nat):List Int:=rmsZ (stX M p P c tok M.m.ln) M.m.nm M.D
structure MdOk (M:Md):Prop where
 ok:okB M.d M.h M.l M.v M.u M.x M.t M.n=true
 ck:checkB M.d M.h M.l M.v M.u M.x M.t M.n M.m=0
 ad:M.r≠0→checkA M.r M.s M.d M.h M.l M.v M.u M.x M.t M.n M.a=0
structure MdFit (M:Md):Prop where
 eD:M.d=(M.D:Int)
 d0:2≤M.D
 d1:M.D≤8
 eH:M.h=(M.H:Int)
 h0:1≤M.H
 h1:M.H≤8
 dh:M.D%M.H=0
 ev:M.D/M.H%2=0
 el:M.l=(M.m.ln:Int)
 l0:1≤M.m.ln
 l1:M.m.ln≤2
 v0:2≤M.v
 v1:M.v≤16
 n0:0≤M.n
 n1:M.n≤16
 e:(M.m.e.length:Int)=M.v*M.D
 nm:M.m.nm.length=M.D
 o:(M.m.o.length:Int)=M.v*M.D
 f0:∀ i,i<M.m.ln→(M.m.f i 0).length=M.D
 fq:∀ i,i<M.m.ln→∀ j,1≤j→j≤4→(M.m.f i j).length=M.D*M.D
 f5:∀ i,i<M.m.ln→(M.m.f i 5).length=M.D
 f6:∀ i,i<M.m.ln→((M.m.f i 6).length:Int)=M.x*M.D
 un:∀ i,i<M.m.ln→M.m.un i=netsN M.x
 dn:∀ i,i<M.m.ln→M.m.dn i=netsN M.x
 u:∀ i,i<M.m.ln→∀ j,j<netsN M.x→((M.m.u i j).length:Int)=M.u*M.D
 d:∀ i,i<M.m.ln→∀ j,j<netsN M.x→((M.m.d i j).length:Int)=M.u*M.D
 u0:1≤M.u
 u1:M.u≤8
 xt:(M.x=0∧M.t=0)∨(2≤M.x∧M.x≤4∧1≤M.t∧M.t≤M.x)
theorem MdOk.fit {M:Md}(h:MdOk M):MdFit M:=by
 have r:=right_of h.ok
 obtain⟨good,bad⟩:=chk_iff h.ok M.m
 have all:AllR M.l.toNat M.d.toNat (M.d*M.d).toNat (M.x*M.d).toNat (M.u*M.d).toNat (M.v*M.d).toNat (netsN M.x) M.m:=by
  rcases Classical.em (AllR M.l.toNat M.d.toNat (M.d*M.d).toNat (M.x*M.d).toNat (M.u*M.d).toNat (M.v*M.d).toNat (netsN M.x) M.m) with a|a
  ·exact a
  ·have:=bad a
   rw[h.ck] at this
   cases this
 obtain⟨⟨a1,a2,a3,a4⟩,lay⟩:=all
 have hd0:=r.d0;have hd1:=r.d1;have l0:=r.l0;have l1:=r.l1;have v0:=r.v0;have v1:=r.v1;have u0:=r.u0;have u1:=r.u1;have x0:=r.x0;have x1:=r.x1;have h0:=r.h0;have h1:=r.h1
 have eD:M.d=(M.D:Int):=by unfold Md.D;omega
 have eH:M.h=(M.H:Int):=by unfold Md.H;omega
 have okk:=h.ok
 unfold okB headsB expertsB at okk
 simp only[Bool.and_eq_true,decide_eq_true_eq] at okk
 obtain⟨⟨b1,b2,b3,b4,b5⟩,b6,⟨b7,b8⟩,⟨b9,b10⟩,⟨b11,b12⟩,b13,b14⟩:=okk
 have md:M.D%M.H=0:=by
  have e:((M.D%M.H:Nat):Int)=0:=by rw[Int.natCast_emod,←eD,←eH];exact b4
  omega
 have mev:M.D/M.H%2=0:=by
  have e:((M.D/M.H%2:Nat):Int)=0:=by rw[Int.natCast_emod,Int.natCast_ediv,←eD,←eH];exact b5
  omega
 have p1:0≤M.v*M.d:=Int.mul_nonneg (by omega) (by omega)
 have p2:0≤M.x*M.d:=Int.mul_nonneg (by omega) (by omega)
 have p3:0≤M.u*M.d:=Int.mul_nonneg (by omega) (by omega)
 have p4:(M.d*M.d).toNat=M.D*M.D:=by
  have q:M.d*M.d=((M.D*M.D:Nat):Int):=by rw[Int.natCast_mul,←eD]
  rw[q]
  exact Int.toNat_natCast _
 refine⟨eD,by omega,by omega,eH,by omega,by omega,md,mev,by omega,by omega,by omega,v0,v1,by omega,by omega,?_,a3,?_,?_,?_,?_,?_,?_,?_,?_,?_,u0,u1,b6⟩
 ·rw[a2,←eD];omega
 ·rw[a4,←eD];omega
 ·intro i hi;exact ((lay i hi).1.1 0 (by omega))
 ·intro i hi j hj hj'
  rw[(lay i hi).1.1 j (by omega)]
  unfold preC
  rw[if_neg (by omega),if_neg (by omega),p4]
 ·intro i hi;exact ((lay i hi).1.1 5 (by omega))
 ·intro i hi
  rw[(lay i hi).1.1 6 (by omega)]
  show ((M.x*M.d).toNat:Int)=_
  rw[←eD];omega
 ·intro i hi;exact (lay i hi).1.2.1
 ·intro i hi;exact (lay i hi).1.2.2
 ·intro i hi j hj;rw[((lay i hi).2 j hj).1,←eD];omega
 ·intro i hi j hj;rw[((lay i hi).2 j hj).2,←eD];omega
structure AdFit (M:Md) (R:Nat):Prop where
 er:M.r=(R:Int)
 r0:1≤R
 r1:R≤4
 s0:0≤M.s
 s1:M.s≤8
 ln:M.a.ln=M.m.ln
 f:∀ i,i<M.m.ln→∀ j,j<4→(M.a.f i j).length=R*M.D
theorem MdOk.adapter {M:Md}(h:MdOk M)(hr:M.r≠0):∃ R,AdFit M R:=by
 have F:=h.fit
 have c:=h.ad hr
 unfold checkA at c
 by_cases o:okA M.r M.s M.d M.h M.l M.v M.u M.x M.t M.n=true
 ·rw[if_pos o] at c
  by_cases q:(M.a.ln:Int)=M.l∧lensA M.r M.d M.a=true
  ·obtain⟨q1,q2⟩:=q
   have q3:=lensA_iff.1 q2
   unfold okA at o
   simp only[Bool.and_eq_true,decide_eq_true_eq] at o
   obtain⟨-,o1,o2,o3,o4⟩:=o
   have el:=F.el
   refine⟨M.r.toNat,by omega,by omega,by omega,o3,o4,by omega,fun i hi j hj=>?_⟩
   have:=q3 i (by omega) j hj
   rw[F.eD,show M.r=(M.r.toNat:Int) by omega,←Int.natCast_mul] at this
   exact Int.ofNat.inj this
  ·rw[if_neg q] at c
   cases c
 ·rw[if_neg o] at c
  cases c
theorem fitB_of {n d:Nat}{r:Int}(hd:0<d)(h:(n:Int)=r*d)(hr:0≤r):fitB n r d=true:=by
 obtain⟨R,rfl⟩:∃ R:Nat,r=R:=⟨r.toNat,by omega⟩
 have e:n=R*d:=by rw[←Int.natCast_mul] at h;exact Int.ofNat.inj h
 subst e
 exact decide_eq_true ⟨hd,Nat.mul_mod_left _ _,by rw[Nat.mul_div_cancel _ hd]⟩
theorem plusL_length (xs ys:List Int):(plusL xs ys).length=xs.length:=by simp[plusL]
theorem rmsZ_length (xs ws:List Int)(n:Nat):(rmsZ xs ws n).length=n:=by simp[rmsZ]
theorem nrmL_length (M:Md)(i:Nat)(x:List Int):(nrmL M i x).length=M.D:=rmsZ_length _ _ _
theorem graftL_length (M:Md)(i j:Nat)(y hh:List Int):(graftL M i j y hh).length=y.length:=by
 unfold graftL
 split
 ·rfl
 ·exact plusL_length _ _
theorem hd_mul {M:Md}(F:MdFit M):M.H*(M.D/M.H)=M.D:=by
 have:=F.dh
 rw[Nat.mul_comm]
 exact Nat.div_mul_cancel (Nat.dvd_of_mod_eq_zero this)
theorem mat_length {M:Md}(F:MdFit M){i:Nat}(hi:i<M.m.ln){j:Nat}(h1:1≤j)(h4:j≤4){x:List Int}(hx:x.length=M.D):(matL (M.m.f i j) x).length=M.D:=by
 have:=F.d0
 rw[matL_length,F.fq i hi j h1 h4,hx,Nat.mul_div_cancel _ (by omega)]
theorem kL_length {M:Md}(F:MdFit M)(p:Int)(i:Nat)(x:List Int):(kL M p i x).length=M.D:=by
 unfold kL
 rw[headsL_length,hd_mul F]
theorem vL_length {M:Md}(F:MdFit M){i:Nat}(hi:i<M.m.ln)(x:List Int):(vL M i x).length=M.D:=by
 unfold vL
 rw[graftL_length,mat_length F hi (by omega) (by omega) (nrmL_length _ _ _)]
theorem embL_length (M:Md)(tok:Nat):(embL M tok).length=M.D:=by simp[embL]
theorem stR_length {M:Md}(F:MdFit M)(p:Int)(P:Nat→List Int)(c tok k:Nat)(hk:k≤M.m.ln):(stR M p P c tok k).length=2*k*M.D:=by
 induction k with
 | zero=>simp[stR]
 | succ k ih =>
  rw[stR,List.length_append,List.length_append,ih (by omega),kL_length F,vL_length F (by omega),show 2*(k+1)=2*k+2 by omega,Nat.add_mul]
  omega
theorem mix_fits {M:Md}(F:MdFit M){i:Nat}(hi:i<M.m.ln){xs:List Int}(hx:xs.length=M.D):mixE (M.m.f i 6) (M.m.un i) (M.m.dn i) (M.m.u i) (M.m.d i) M.u M.t xs=0:=by
 have d0:=F.d0
 have u0:=F.u0
 have hn:netsN M.x=(max M.x 1).toNat:=rfl
 have one:∀ j,j<netsN M.x→oneB (M.m.u i j) (M.m.d i j) M.u xs=true:=fun j hj=>by
  have h1:=F.u i hi j hj
  have h2:=F.d i hi j hj
  have f1:fitB (M.m.u i j).length M.u xs.length=true:=by rw[hx];exact fitB_of (by omega) h1 (by omega)
  obtain⟨U,hU⟩:∃ U:Nat,M.u=U:=⟨M.u.toNat,by omega⟩
  have e1:(M.m.u i j).length=U*M.D:=by rw[hU,←Int.natCast_mul] at h1;exact Int.ofNat.inj h1
  have e2:(hidL (M.m.u i j) xs).length=U:=by rw[hidL_length,hx,e1,Nat.mul_div_cancel _ (by omega)]
  have f2:fitB (M.m.d i j).length (xs.length:Int) (hidL (M.m.u i j) xs).length=true:=by
   rw[e2,hx]
   refine fitB_of (by omega) ?_ (by omega)
   rw[h2,hU,Int.mul_comm]
  unfold oneB
  rw[f1,f2]
  rfl
 unfold mixE
 rw[F.un i hi,F.dn i hi,if_neg (by rcases F.xt with⟨a,b⟩|⟨a,b,c,e⟩<;>omega)]
 rcases F.xt with⟨a,b⟩|⟨a,b,c,e⟩
 ·rw[if_pos (by omega),if_pos (one 0 (by omega))]
 ·rw[if_neg (by omega)]
  have en:((netsN M.x:Nat):Int)=M.x:=by omega
  have rb:routeB (M.m.f i 6) (netsN M.x) M.t xs=true:=by
   unfold routeB
   rw[decide_eq_true c,decide_eq_true (by omega),Bool.true_and,Bool.true_and,en,hx]
   exact fitB_of (by omega) (F.f6 i hi) (by omega)
  rw[if_neg (by rw[rb];decide),if_pos]
  unfold restB
  refine List.all_eq_true.2 fun j hj=>?_
  have:=plc_lt rb (j:=j) (by simpa using hj)
  exact one _ (by omega)
theorem appl_ok {M:Md}(F:MdFit M){R:Nat}(A:AdFit M R){i:Nat}(hi:i<M.m.ln){j:Nat}(hj:j<3){xs:List Int}(hx:xs.length=M.D):applOK (M.a.f i j) (M.a.f i (j+1)) M.r xs:=by
 have d0:=F.d0
 have r0:=A.r0
 have e1:=A.f i hi j (by omega)
 have e2:=A.f i hi (j+1) (by omega)
 have q:(M.a.f i j).length/xs.length=R:=by rw[e1,hx,Nat.mul_div_cancel _ (by omega)]
 refine⟨?_,?_⟩
 ·rw[hx,e1,A.er]
  exact⟨by omega,Nat.mul_mod_left _ _,by rw[Nat.mul_div_cancel _ (by omega)]⟩
 ·rw[q,e2,hx]
  exact⟨by omega,Nat.mul_mod_right _ _,by rw[Nat.mul_div_cancel_left _ (by omega)]⟩
def In32 (z:Int):Prop:=-2147483648≤z∧z≤2147483647
theorem in_clamp (z:Int):In32 (clampZ z):=clampZ_bounds z
theorem in_plusL (xs ys:List Int):∀ z∈plusL xs ys,In32 z:=fun z hz=>by
 obtain⟨y,_,rfl⟩:=List.mem_map.1 hz
 exact in_clamp _
theorem in_matL (ws xs:List Int):∀ z∈matL ws xs,In32 z:=fun z hz=>by
 obtain⟨y,_,rfl⟩:=List.mem_map.1 hz
 exact in_clamp _
theorem in_turnZ (xs:List Int)(p:Int)(n:Nat):∀ z∈turnZ xs p n,In32 z:=fun z hz=>by
 obtain⟨y,_,rfl⟩:=List.mem_map.1 hz
 unfold turnF
 split<;>exact in_clamp _
theorem in_headsL (xs:List Int)(p:Int)(d m:Nat):∀ z∈headsL xs p d m,In32 z:=by
 induction m with
 | zero=>intro z hz;simp[headsL] at hz
 | succ m ih =>
  intro z hz
  rw[headsL,List.mem_append] at hz
  rcases hz with h|h
  ·exact ih z h
  ·exact in_turnZ _ _ _ z h
theorem in_vL (M:Md)(i:Nat)(x:List Int):∀ z∈vL M i x,In32 z:=by
 unfold vL graftL
 split
 ·exact in_matL _ _
 ·exact in_plusL _ _
theorem in_stR (M:Md)(p:Int)(P:Nat→List Int)(c tok k:Nat):∀ z∈stR M p P c tok k,In32 z:=by
 induction k with
 | zero=>intro z hz;simp[stR] at hz
 | succ k ih =>
  intro z hz
  rw[stR,List.mem_append,List.mem_append] at hz
  rcases hz with h|h|h
  ·exact ih z h
  ·exact in_headsL _ _ _ _ z h
  ·exact in_vL _ _ _ z h
theorem In32.wf {z:Int}(h:In32 z):(Lit.int .i64 z).wf=true:=WalkArith.wf_i64 ⟨by have:=h.1;omega,by have:=h.2;omega⟩
end
section
open Go.ChangeShapes Go.WideShapes Go.ChangeAt Go.RowKit Go.Sort
def segA (N:Nat)(ws:List Int)(q:Nat):List Int:=(ws.drop (q*N)).take N
def grshapeV (ln N:Nat)(ws:List Int):AdV:=⟨ln,fun i j=>segA N ws (4*i+j)⟩
end
section
theorem TA.stepK {B:Nat}{w w':World}{v:Value}{n:Nat}{Y:Nat→Nat→SL}{f:Nat→Nat→List Int}(h:TA B w v n Y f)(k1:Keeps 61 w w')(k2:Keeps 73 w w'):TA B w' v n Y f:=⟨k1.own h.own,fun i hi j hj=>(h.lay i hi j hj).step k2⟩
theorem TA.le {B B':Nat}{w:World}{v:Value}{n:Nat}{Y:Nat→Nat→SL}{f:Nat→Nat→List Int}(h:TA B w v n Y f)(hb:B'≤B):TA B' w v n Y f:=by
 refine⟨⟨h.own.1,?_⟩,fun i hi j hj=>(h.lay i hi j hj).le hb⟩
 rcases h.own.2 with h2|⟨g,cap,cur,hv,hg,r⟩
 ·exact .inl h2
 ·exact .inr ⟨g,cap,cur,hv,by omega,r⟩
end
end Go.Proofs.YthliomlmhfjhnaaGreat
