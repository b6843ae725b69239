/- Texts put together: GxCs. -/
import Derived.Test.YtbkjhfmehemgpaaGreatRows
import Derived.Test.YtbkjhfmehemgpaaGreatFa43
namespace Go.Proofs.YtbkjhfmehemgpaaGreat
set_option maxRecDepth 20000
set_option maxHeartbeats 16000000
open Go.ChangeShapes Go.WideShapes Go.ChangeAt Go.RowKit
set_option linter.unusedVariables false
set_option linter.unusedSimpArgs false
section
abbrev caseR (k:Kg) (t:MT) (La:SL) (q:Aq):Rq:=⟨k.M,t.E,t.L,t.N,t.O,La,q⟩
theorem case_call (k:Kg) (t:MT) (La:SL) (Ya:Nat→Nat→SL) (q:Aq) (zs:List Int) (hk:q.k≠3) (w:World) (hm:ModAt w t.E t.L t.N t.O t.Y t.U t.D k.M.m) (ha:AdAt w La Ya k.M.a) (hq:AkAt w q zs) (T V:List Int) (E:Int) (eT:ansT (caseR k t La q) zs []=T) (eV:ansV (caseR k t La q) zs=V) (eE:reqE (caseR k t La q) zs=E) :
  Calls Tryz.prog 9 #[(caseR k t La q).mw,(caseR k t La q).aw,q.w] w fun e w'=>AnsAt w.heap.size T V E e w'∧Below w.heap.size w w':=by
 subst eT eV eE
 exact answer_call (caseR k t La q) t.Y t.U t.D Ya zs [] w ⟨hm,ha,hq⟩ (fun _ h=>absurd h hk)
theorem newM_now {B:Nat} {w:World} {t:MT} {m:ModV} (h:NewM B w t.E t.L t.N t.O t.Y t.U t.D m):ModAt w t.E t.L t.N t.O t.Y t.U t.D m:=h w fun _ _ hp _=>hp
theorem newA_now {B:Nat} {w:World} {L:SL} {Y:Nat→Nat→SL} {m:AdV} (h:NewA B w L Y m):AdAt w L Y m:=h w fun _ _ hp _=>hp
theorem tokGo_pre {nx:List Int→Int} {S:Int}:∀ (k:Nat) (ts:List Int),∃ r,tokGo nx S k ts=ts++r
 | 0,ts=>⟨[],by simp[tokGo]⟩
 | k+1,ts=>by
  unfold tokGo
  split
  ·exact⟨_,rfl⟩
  ·obtain⟨r,e⟩:=tokGo_pre (nx:=nx) (S:=S) k (ts++[nx ts])
   exact⟨[nx ts]++r,by rw[e,List.append_assoc]⟩
theorem tokGo_more {nx:List Int→Int} {S:Int}:∀ (k:Nat) (ts:List Int),∃ r,tokGo nx S (k+1) ts=tokGo nx S k ts++r
 | 0,ts=>by
  unfold tokGo
  split
  ·exact⟨_,rfl⟩
  ·exact⟨[nx ts],by simp[tokGo]⟩
 | k+1,ts=>by
  unfold tokGo
  split
  ·exact⟨[],by simp⟩
  ·exact tokGo_more k (ts++[nx ts])
theorem tokGo_never {nx:List Int→Int} {S:Int} (h:∀ ts,nx ts≠S):∀ (k:Nat) (ts:List Int),(tokGo nx S k ts).length=ts.length+k
 | 0,ts=>rfl
 | k+1,ts=>by
  unfold tokGo
  rw[if_neg (h ts),tokGo_never h k]
  simp
  omega
theorem tokGo_any {nx:List Int→Int} {S S':Int} (h:∀ ts,nx ts≠S'):∀ (k:Nat) (ts:List Int),∃ r,tokGo nx S' k ts=tokGo nx S k ts++r
 | 0,ts=>⟨[],by simp[tokGo]⟩
 | k+1,ts=>by
  unfold tokGo
  rw[if_neg (h ts)]
  split
  ·exact tokGo_pre k _
  ·exact tokGo_any h k _
theorem tokGo_last {nx:List Int→Int} {S:Int}:∀ (k:Nat) (ts:List Int) (i:Nat),ts.length≤i→i+1<(tokGo nx S k ts).length→(tokGo nx S k ts).getD i 0≠S
 | 0,ts,i,h0,h1=>by simp only[tokGo] at h1;omega
 | k+1,ts,i,h0,h1=>by
  unfold tokGo at h1 ⊢
  split
  ·rename_i hs
   rw[if_pos hs] at h1
   simp at h1
   omega
  ·rename_i hs
   rw[if_neg hs] at h1
   by_cases hi:i=ts.length
   ·subst hi
    obtain⟨r,e⟩:=tokGo_pre (nx:=nx) (S:=S) k (ts++[nx ts])
    rw[e]
    simpa [List.getD] using hs
   ·exact tokGo_last k _ i (by simp;omega) h1
theorem tokGo_free {nx:List Int→Int} {S S':Int} (h:∀ ts,nx ts≠S'):∀ (k:Nat) (ts:List Int),S ∉ tokGo nx S' k ts→tokGo nx S k ts=tokGo nx S' k ts
 | 0,ts,_=>rfl
 | k+1,ts,hn=>by
  unfold tokGo at hn ⊢
  rw[if_neg (h ts)] at hn ⊢
  by_cases hs:nx ts=S
  ·obtain⟨r,e⟩:=tokGo_pre (nx:=nx) (S:=S') k (ts++[nx ts])
   rw[e] at hn
   exact absurd (by simp[hs]) hn
  ·rw[if_neg hs]
   exact tokGo_free h k _ hn
abbrev askLS (q:Aq) (L S:Int):Aq:=⟨q.k,q.a,q.n,q.c,L,S,q.sd,q.T,q.H,q.B,q.E⟩
theorem req_ls {k:Kg} {t:MT} {La:SL} {q:Aq} {zs:List Int} (h:reqE (caseR k t La q) zs=0) (h4:q.k≠4) (h3:q.k≠3) (L S:Int) :
  reqE (caseR k t La (askLS q L S)) zs=if 1≤L∧S<k.c.v then (if 24 - (q.n:Int)<L then 4 else 0) else 1:=by
 have o:=req_ok h
 unfold reqE at h ⊢
 by_cases hE:badE (caseR k t La q).M=0
 case neg=>rw[if_neg hE] at h;exact absurd h hE
 rw[if_pos hE] at h
 rw[if_pos (show badE (caseR k t La (askLS q L S)).M=0 from hE)]
 unfold checkZ at h ⊢
 by_cases hc:((caseR k t La q).cf.ok && (promptZ (caseR k t La q).cf zs && kindZ (caseR k t La q).cf (caseR k t La q).q))=true
 case neg=>rw[if_neg hc] at h;exact absurd h (by decide)
 simp only[Bool.and_eq_true] at hc
 obtain⟨h1,h2,hk⟩:=hc
 have e1:(caseR k t La (askLS q L S)).cf.ok=true:=h1
 have e2:promptZ (caseR k t La (askLS q L S)).cf zs=true:=h2
 have ev:(caseR k t La (askLS q L S)).cf.v=k.c.v:=rfl
 have e3:kindZ (caseR k t La (askLS q L S)).cf (askLS q L S)=(decide (1≤L) && decide (S<k.c.v)):=by
  unfold kindZ at hk ⊢
  rcases o.kd with k1 | k2 | k3 | k4
  ·replace k1:q.k=1:=k1
   simp only[k1]
   rfl
  ·replace k2:q.k=2:=k2
   rw[if_neg h4,if_neg h3,if_pos k2] at hk ⊢
   rw[Bool.and_eq_true] at hk
   rw[show choiceZ (caseR k t La (askLS q L S)).cf (askLS q L S)=true from hk.1,Bool.true_and]
   rfl
  ·exact absurd k3 h3
  ·exact absurd k4 h4
 have e4:longZ (askLS q L S)=decide (24 - (q.n:Int)<L):=by unfold longZ;rw[if_neg h4]
 rw[show (caseR k t La (askLS q L S)).q=askLS q L S from rfl,e1,e2,e3,e4]
 by_cases g1:1≤L<;>by_cases g2:S<k.c.v<;>by_cases g3:24 - (q.n:Int)<L<;>simp[g1,g2,g3]
theorem ans_ls {k:Kg} {t:MT} {La:SL} {q:Aq} {zs:List Int} (h4:q.k≠4) (h3:q.k≠3) (L S:Int) (h:reqE (caseR k t La (askLS q L S)) zs=0) :
  ansT (caseR k t La (askLS q L S)) zs []=tokGo (nxZ (caseR k t La q) zs) S L.toNat []:=by
 unfold ansT
 rw[if_pos h,if_neg h4,if_neg h3]
 rfl
theorem ans_no {k:Kg} {t:MT} {La:SL} {q:Aq} {zs:List Int} (h:reqE (caseR k t La q) zs≠0∨q.k=4):ansT (caseR k t La q) zs []=[]:=by
 unfold ansT
 rcases h with h | h
 ·rw[if_neg h]
 ·rw[if_pos (show (caseR k t La q).q.k=4 from h),ite_self]
theorem nx_range {k:Kg} {t:MT} {La:SL} {q:Aq} {zs:List Int} (h:reqE (caseR k t La q) zs=0) (ts:List Int):0≤nxZ (caseR k t La q) zs ts∧nxZ (caseR k t La q) zs ts<k.c.v:=nextZ_range (r:=caseR k t La q) (req_ok h).K _ _
theorem stops_law {k:Kg} {t:MT} {La:SL} {q:Aq} {zs:List Int} (h:reqE (caseR k t La q) zs=0) (h4:q.k≠4) (h3:q.k≠3) :
  ∃ x r,ansT (caseR k t La q) zs []=x :: r∧reqE (caseR k t La (askLS q q.L x)) zs=0∧ansT (caseR k t La (askLS q q.L x)) zs []=[x]:=by
 have o:=req_ok h
 obtain⟨l1,l2⟩:=o.len h4
 obtain⟨n,hn⟩:∃ n,q.L.toNat=n+1:=⟨q.L.toNat - 1,by have:(1:Int)≤q.L:=l1;omega⟩
 have e0:ansT (caseR k t La q) zs []=tokGo (nxZ (caseR k t La q) zs) q.S (n+1) []:=by
  rw[←hn]
  exact ans_ls h4 h3 q.L q.S h
 have hx:=nx_range h []
 obtain⟨x,ex⟩:∃ x,nxZ (caseR k t La q) zs []=x:=⟨_,rfl⟩
 have hE:reqE (caseR k t La (askLS q q.L x)) zs=0:=by
  rw[req_ls h h4 h3,if_pos ⟨l1,by omega⟩,if_neg (show ¬24 - (q.n:Int)<q.L by have:(q.n:Int)+q.L≤24:=l2;omega)]
 have key:∃ r,tokGo (nxZ (caseR k t La q) zs) q.S (n+1) []=x :: r:=by
  unfold tokGo
  rw[ex]
  split
  ·exact⟨[],rfl⟩
  ·obtain⟨r,e⟩:=tokGo_pre (nx:=nxZ (caseR k t La q) zs) (S:=q.S) n ([]++[x])
   exact⟨r,by rw[e];rfl⟩
 obtain⟨r,er⟩:=key
 refine⟨x,r,e0.trans er,hE,?_⟩
 rw[ans_ls h4 h3 q.L x hE,hn]
 unfold tokGo
 rw[if_pos ex,ex]
 rfl
theorem reads_first {w:World} {y:Addr} {n m:Nat} {zs xs:List Int} (h:Reads .i64 w (some y) n zs) (hm:m≤n) (e:xs=zs.take m):Reads .i64 w (some y) m xs:=by
 subst e
 have:=h.cut 0 m (by omega)
 rw[show y.add 0=y by simp[Addr.add]] at this
 simpa using this
theorem with_same (k:Kg) (t:MT) (La:SL) (q:Aq) (p:Option Addr) (C:Nat) (zs:List Int):reqE (caseR k t La (q.with p C)) zs=reqE (caseR k t La q) zs∧ansT (caseR k t La (q.with p C)) zs []=ansT (caseR k t La q) zs []∧ansV (caseR k t La (q.with p C)) zs=ansV (caseR k t La q) zs:=⟨rfl,rfl,rfl⟩
def ownE (q:Aq) (zs:List Int):Ent:=.of (fun v u=>∃ p C,v=Aq.w (q.with p C)∧AkAt u (q.with p C) zs) (fun _ _ _ hb ⟨p,C,e,h⟩=>⟨p,C,e,⟨h.ws,h.wL,h.t.below hb,h.te,h.tl⟩⟩)
def ansE (T:List Int) (E:Int):Ent:=.of (fun v u=>∃ ta tc va n vc,v=.tuple #[.slice ta T.length tc,.slice va n vc,.int .i64 E]∧Reads .i64 u ta T.length T∧T.length≤tc) (fun _ _ _ hb ⟨ta,tc,va,n,vc,e,h,l⟩=>⟨ta,tc,va,n,vc,e,h.below hb,l⟩)
structure LongS (k:Kg) (t:MT) (La:SL) (q:Aq) (zs T R:List Int):Prop where
 l0:1≤T.length
 l1:(T.length:Int)≤q.L
 l2:q.L≤24
 st:∀ i,i+1<T.length→T.getD i 0≠q.S
 up:reqE (caseR k t La (askLS q (q.L+1) q.S)) zs=0→∃ r,ansT (caseR k t La (askLS q (q.L+1) q.S)) zs []=T++r
 nE:reqE (caseR k t La (askLS q q.L (-1))) zs=0
 nT:ansT (caseR k t La (askLS q q.L (-1))) zs []=R
 nR:∃ r,R=T++r
 nl:(R.length:Int)=q.L
 fr:∀ s,s ∉ R→s<k.c.v→reqE (caseR k t La (askLS q q.L s)) zs=0∧ansT (caseR k t La (askLS q q.L s)) zs []=R
 ov:∀ s,k.c.v≤s→reqE (caseR k t La (askLS q q.L s)) zs=1
theorem long_law {k:Kg} {t:MT} {La:SL} {q:Aq} {zs:List Int} (h:reqE (caseR k t La q) zs=0) (h4:q.k≠4) (h3:q.k≠3) :
  LongS k t La q zs (ansT (caseR k t La q) zs []) (ansT (caseR k t La (askLS q q.L (-1))) zs []):=by
 have o:=req_ok h
 obtain⟨l1,l2⟩:=o.len h4
 replace l1:1≤q.L:=l1
 replace l2:(q.n:Int)+q.L≤24:=l2
 have hx:=fun ts=>nx_range h ts
 have v0:0≤k.c.v:=by have:=hx [];omega
 obtain⟨n,hn⟩:∃ n,q.L.toNat=n+1:=⟨q.L.toNat - 1,by omega⟩
 have eT:ansT (caseR k t La q) zs []=tokGo (nxZ (caseR k t La q) zs) q.S q.L.toNat []:=ans_ls h4 h3 q.L q.S h
 have hN:reqE (caseR k t La (askLS q q.L (-1))) zs=0:=by rw[req_ls h h4 h3,if_pos ⟨l1,by omega⟩,if_neg (by omega)]
 have eR:ansT (caseR k t La (askLS q q.L (-1))) zs []=tokGo (nxZ (caseR k t La q) zs) (-1) q.L.toNat []:=ans_ls h4 h3 q.L (-1) hN
 have nv:∀ ts,nxZ (caseR k t La q) zs ts≠-1:=fun ts=>by have:=hx ts;omega
 have ln:=tokGo_never nv q.L.toNat []
 have lt:=tokGo_len (nx:=nxZ (caseR k t La q) zs) (S:=q.S) q.L.toNat []
 simp only[List.length_nil,Nat.zero_add] at ln lt
 refine⟨?_,by rw[eT];omega,by omega,fun i hi=>?_,fun hu=>?_,hN,rfl,?_,by rw[eR,ln];omega,fun s hs hv=>?_,fun s hv=>?_⟩
 ·obtain⟨x,r,e,-⟩:=stops_law h h4 h3
  rw[e]
  simp
 ·rw[eT] at hi ⊢
  exact tokGo_last _ _ i (Nat.zero_le _) hi
 ·rw[ans_ls h4 h3 _ _ hu,eT,show (q.L+1).toNat=q.L.toNat+1 by omega]
  exact tokGo_more _ _
 ·rw[eR,eT]
  exact tokGo_any nv _ _
 ·have hE:reqE (caseR k t La (askLS q q.L s)) zs=0:=by rw[req_ls h h4 h3,if_pos ⟨l1,hv⟩,if_neg (by omega)]
  refine⟨hE,?_⟩
  rw[ans_ls h4 h3 _ _ hE,eR]
  rw[eR] at hs
  exact tokGo_free nv _ _ hs
 ·rw[req_ls h h4 h3,if_neg (by omega)]
def RegEnd (l:List Tmp) (S:(Nat→Value)→World→Prop) (a:Act) (e:Exit) (a':Act) (u:World):Prop:=e=.normal∧∃ f:Nat→Value,a'=l.foldl (fun b s=>b.put (some s) (f s)) a∧S f u
theorem wp_region_of {P:Program} {id:Nat} {ops:Array Oper} {d:Bool} {Q:Exit→Act→World→Prop} {a:Act} {w:World} (l:List Tmp) (S:(Nat→Value)→World→Prop)
  (walk:(Code.region id ops d).wp P (RegEnd l S a) a w)
  (rest:∀ f u',S f u'→Q .normal (l.foldl (fun b s=>b.put (some s) (f s)) a) u'):(Code.region id ops d).wp P Q a w :=
 Code.wp_mono (fun e a' u' ⟨h1,f,h2,h3⟩=>by subst h1 h2;exact rest f u' h3) walk
theorem RegEnd.of {a a':Act} {l:List Tmp} {S:(Nat→Value)→World→Prop} {u:World} (h:a'=l.foldl (fun b s=>b.put (some s) (a'.tmps.getD s undef)) a) (hS:S (fun s=>a'.tmps.getD s undef) u):RegEnd l S a .normal a' u:=⟨rfl,_,h,hS⟩
end
end Go.Proofs.YtbkjhfmehemgpaaGreat
