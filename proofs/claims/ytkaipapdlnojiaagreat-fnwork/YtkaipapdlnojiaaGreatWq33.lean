import Derived.Test.YtkaipapdlnojiaaGreatWq32
set_option maxHeartbeats 40000000
set_option maxRecDepth 1000000
namespace Go.Proofs.YtkaipapdlnojiaaGreat
open Go.RowKit
variable {x:Int}{R:List (List Int)}{L o:List Int}{b c g g3 lk n:Nat}{PB:Obj}{v:Value}{W W' X Y w:World}
def qN(o vars:List Int)(i:Nat):Bool:=decide (o.getD i 0∈vars)
theorem qDL(H:Nat->Bool)(p:List Int){i:Nat}(hi:i < p.length):prt H (p.take (i+1))=prt H (p.take i)++(if H i then [p.getD i 0] else []):=by
 have e:p.take (i+1)=p.take i++[p.getD i 0]:=zA hi;rw[e,y9,bZ,Nat.min_eq_left Oo]
theorem QN(w:World)(a0 a1:Option Addr)(n1 c0 c1:Nat)(vo vp:Value)(vars o p:List Int)(hv:IS w (.slice a0 vars.length c0) vars)(ho:IS w vo o)(hp:IS w vp p)(hl:p.length<=o.length)(hb:o.length<=1000)(e8:vars.length<=1000):
 Cl 85 #[.agg #[.slice a0 vars.length c0,.slice a1 n1 c1],vo,vp] w λe w'=>∃g c,e=.returned (.slice (some ⟨g,0,none⟩) (prt (qN o vars) p).length c)/\w'.ownsRow w.heap.size 3 1 (.slice (some ⟨g,0,none⟩) (prt (qN o vars) p).length c) (prt (qN o vars) p).length ((prt (qN o vars) p).map (Value.int .i64))/\Bl w w':=by
 obtain⟨i0,hi,e0,e2,e3⟩:=info_parts Tryz.infoInt;obtain⟨ap,e9,rfl,b9⟩:=hp;obtain⟨ao,co,rfl,c7⟩:=ho;obtain⟨n,hn⟩:∃n,n=p.length:=⟨_,rfl⟩;obtain⟨no,a6⟩:∃no,no=o.length:=⟨_,rfl⟩;have HN:=hid hn;obtain⟨I,a2⟩:∃I,I=w.alloc (.cells #[.slice a0 vars.length c0,.slice a1 n1 c1] 141):=⟨_,rfl⟩;have a3:Bl w I:=by rw[a2];exact(bM _ _).alloc (bK _) _
 have c8:I.heap.size=w.heap.size+1:=by rw[a2];simp
 have c9:I.cell? ⟨w.heap.size,0,none⟩=some (.slice a0 vars.length c0):=by rw[a2,cA _ _ _ _ rfl];rfl
 have HV:=hid (hv.below a3);have e4:=hid a3
 have e5:Hid (n=0∨∃b q,ap=some ⟨b,q,none⟩/\∀j,j < n->I.cell? ⟨b,q+j,none⟩=some (.int .i64 (p.getD j 0))):=hid (by
  rw[hn];rcases b9 with h0|⟨b,q,rfl,h⟩
  ·exact Or.inl h0
  ·exact Or.inr ⟨b,q,rfl,λj hj=>(a3.cell (bL w _ (h j hj))).trans (h j hj)⟩)
 have e6:Hid (no=0∨∃b q,ao=some ⟨b,q,none⟩/\∀j,j < no->I.cell? ⟨b,q+j,none⟩=some (.int .i64 (o.getD j 0))):=hid (by
  rw[a6];rcases c7 with h0|⟨b,q,rfl,h⟩
  ·exact Or.inl h0
  ·exact Or.inr ⟨b,q,rfl,λj hj=>(a3.cell (bL w _ (h j hj))).trans (h j hj)⟩)
 obtain⟨K,a5⟩:∃K:Nat->List Int,K=λk=>prt (qN o vars) (p.take k):=⟨_,rfl⟩;have H0:Hid (K 0=[]):=hid (by rw[a5];rfl);have HS:Hid (∀k,k < n->K (k+1)=K k++(if qN o vars k then [p.getD k 0] else [])):=hid (λk hk=>by rw[a5];exact qDL _ p Oo);have HE:Hid (K n=prt (qN o vars) p):=hid (by rw[a5,hn];show prt _ (p.take p.length)=_;rw[tL]);rw[<-HE.out];rw[<-hn,<-a6];have f4:n<=no:=Oo;have e7:no<=1000:=Oo;have d0:=hid c8;clear a5 hv b9 c7 a3 hl hb hn a6 c8;go_enter Tryz.func85,Tryz.ntmps85
 go_upto_region 1 with fail
 rw[<-a2];clear a2;have b0:Bl I (I.alloc (.cells #[] 3)):=(bM _ _).alloc (bK _) _;have d6:=hid b0;clear b0;go_upto_block 0 with fail
 go_wp2_with fail
 go_loopw [7,13] (λv t wr=>∃k g cp lk:Nat,k<=n/\t=.int .i64 k/\v=.slice (some ⟨g,0,none⟩) lk cp/\lk<=k/\Hid (lk=(K k).length/\wr.ownsRow I.heap.size 3 1 (.slice (some ⟨g,0,none⟩) lk cp) lk ((K k).map (Value.int .i64))/\Bl I wr)) (λ_ t _=>n - (intOf t).toNat)
 case atStart=>exact⟨0,I.heap.size,0,0,nZ _,rfl,rfl,bK _,hid (by rw[H0.out];exact⟨rfl,oM I #[] 0 (bK _) Dd rfl,d6.out⟩)⟩
 case round=>
  clear d6;obtain⟨k,g,cp,lk,hk,rfl,rfl,f7,U⟩:=hrel;have f8:=U.out.2.2.size;by_cases a7:k < n
  ·have i1:(k:Int) < (n:Int):=Oo;have i2:(k:Int) < (no:Int):=Oo;rcases e5.out with h0|⟨b,q,rfl,M⟩
   ·omega
   rcases e6.out with h0|⟨bo,qo,rfl,O⟩
   ·omega
   have c1:wr.cell? ⟨b,q+k,none⟩=some (.int .i64 (p.getD k 0)):=(U.out.2.2.cell (bL I _ (M k a7))).trans (M k a7);have c2:wr.cell? ⟨bo,qo+k,none⟩=some (.int .i64 (o.getD k 0)):=(U.out.2.2.cell (bL I _ (O k Oo))).trans (O k Oo);have c3:wr.cell? ⟨w.heap.size,0,none⟩=some (.slice a0 vars.length c0):=(U.out.2.2.cell (bL I _ c9)).trans c9;have HK:=hid (λW (hW:Bl I W)=>qU W _ vars (o.getD k 0) (HV.out.below hW) Oo);have e1:=HS.out k a7;have ey:decide (o.getD k 0∈vars)=qN o vars k:=rfl;rw[ey]at HK;clear M O ey;generalize qN o vars k=y at *;generalize p.getD k 0=x at *;generalize o.getD k 0=ov at *;have a8:Hid (∀q,Bl I (wr.drewN q)):=hid λq=>below_drewN U.out.2.2 q;cases y
   ·rw[if_neg Dd,List.append_nil]at e1;have HF:Hid (∀d,lk=(K (k+1)).length/\(wr.drewN d).ownsRow I.heap.size 3 1 (.slice (some ⟨g,0,none⟩) lk cp) lk ((K (k+1)).map (Value.int .i64))/\Bl I (wr.drewN d)):=hid (λd=>by rw[e1];exact⟨U.out.1,U.out.2.1,below_drewN U.out.2.2 d⟩);clear e1 U;go_upto_region 5 with fail
    go_quiet (first|(go_at_call 16;exact Calls.quiet_of_same (HK.out _ (a8.out _))))
    go_wp2_with fail
    go_roundw
    case rel=>exact⟨k+1,g,cp,lk,Oo,Gg,rfl,Oo,hid (HF.out nq)⟩
    case measure=>simp[intOf];omega
   ·rw[if_pos rfl]at e1;have E1:=hid e1;clear e1;go_upto_region 5 with fail
    go_quiet (first|(go_at_call 16;exact Calls.quiet_of_same (HK.out _ (a8.out _))))
    have a9:Hid ((wr.drewN nq).ownsRow I.heap.size 3 1 (.slice (some ⟨g,0,none⟩) lk cp) lk ((K k).map (Value.int .i64))):=hid U.out.2.1;have b7:=hid (a8.out nq);have d7:I.heap.size<=(wr.drewN nq).heap.size:=b7.out.size;generalize wr.drewN nq=wd at a9 b7 d7 ⊢
    go_wp2_with (first
     |(at_builtin;refine wpList_append_lies _ rfl _ _ 25 rfl I.heap.size 3 i0 (.int .i64 0) 1 8 Tryz.underlying25 hi e0 e2 e3 rfl Dd (.slice (some ⟨g,0,none⟩) lk cp) _ _ rfl (a9.out.alloc _) ⟨_,0,none⟩ 1 1 [.int .i64 x] rfl rfl (qH _ _ _) (λu hu=>by simp at hu;subst hu;rfl) Dd (by unfold maxLen;omega) Oo (by simp;omega) _ rfl ?_;intro g3 cp3 w3 a4 V d8 d9)|fail)
    have HF:Hid (lk+1=(K (k+1)).length/\w3.ownsRow I.heap.size 3 1 (.slice (some ⟨g3,0,none⟩) (lk+1) cp3) (lk+1) ((K (k+1)).map (Value.int .i64))/\Bl I w3):=hid (by
     rw[E1.out,lA,lS,mA];exact⟨by rw[U.out.1],a4,(b7.out.alloc d7 _).grown V (by simp;omega) (λq hq=>(a9.out.lt q hq).1)⟩)
    clear a4 V d8 d9 U;go_roundw
    case rel=>exact⟨k+1,g3,cp3,lk+1,Oo,Gg,rfl,Oo,HF⟩
    case measure=>simp[intOf];omega
  ·obtain rfl:k=n:=Oo;have i1:¬((k:Int) < (k:Int)):=Oo;obtain⟨h1,h3,h4⟩:=U.out;have HF:Hid (wr.ownsRow w.heap.size 3 1 (.slice (some ⟨g,0,none⟩) (K k).length cp) (K k).length ((K k).map (Value.int .i64))/\Bl w wr):=hid (by rw[<-h1];exact⟨qF h3 (by have:=d0.out;omega),e4.out.trans (h4.mono (by have:=d0.out;omega))⟩);have H1:=hid h1;clear h1 h3 h4 U;go_wp2_with fail
   go_ret;exact⟨g,cp,by rw[H1.out];rfl,HF.out.1,HF.out.2⟩
def kA(R:List (List Int))(q:List Int):Nat:=R.findIdx λr=>!decide (cmpL (r.take q.length) q < 0)
def nA(R:List (List Int))(q:List Int):Nat:=(R.drop (kA R q)).findIdx λr=>!decide (r.take q.length=q)
def nN(m:Nat)(R:List (List Int))(q:List Int):List Int:=if q.length < m then VA R q (kA R q) (nA R q) else []
section
variable {R:List (List Int)} {q:List Int}
theorem qD3(O:SL R):Sk R q (kA R q):=by
 have hle:kA R q<=R.length:=List.findIdx_le_length
 have I:∀j,j < kA R q->cmpL ((R.getD j []).take q.length) q < 0:=λj U=>by
  have:=List.not_of_lt_findIdx U;rw[Bool.not_eq_false',dE]at this;rw[gD,bC Oo];exact this
 refine⟨hle,I,λj V h2 hc=>?_⟩;have K:kA R q < R.length:=Oo;have M:=List.findIdx_getElem (w:=K);rw[Bool.not_eq_true',decide_eq_false_iff_not]at M;refine M ?_;have:=qAJ O V h2 hc;rw[gD,bC K]at this;exact this
theorem XA:Run R q (kA R q) (nA R q):=by
 have hle:nA R q<=(R.drop (kA R q)).length:=List.findIdx_le_length;rw[List.length_drop]at hle;have K:kA R q<=R.length:=List.findIdx_le_length;refine⟨Oo,λj I=>?_⟩;have:=List.not_of_lt_findIdx I;rw[Bool.not_eq_false',dE,List.getElem_drop]at this;rw[gD,bC Oo];exact this
theorem qB8(h:kA R q+nA R q < R.length):(R.getD (kA R q+nA R q) []).take q.length≠q:=by
 have I:nA R q < (R.drop (kA R q)).length:=by rw[List.length_drop];omega
 have K:(!decide (((R.drop (kA R q))[nA R q]'I).take q.length=q))=true:=List.findIdx_getElem (w:=I);rw[Bool.not_eq_true',decide_eq_false_iff_not,List.getElem_drop]at K;rw[gD,bC h];exact K
theorem qDI(V:SL R){k:Nat}(K:Sk R q k)(h:Run R q k n)(hE:k+n < R.length->(R.getD (k+n) []).take q.length≠q):k=kA R q/\n=nA R q:=by
 have M:=qD3 (q:=q) V
 have O:k=kA R q:=by
  rcases Nat.lt_trichotomy k (kA R q)with I|I|I
  ·exact absurd (M.lo k I) (K.hi k (bK _) (by have:=M.le;omega))
  ·exact I
  ·exact absurd (K.lo _ I) (M.hi _ (bK _) (by have:=K.le;omega))
 subst O;refine⟨rfl,?_⟩;have U:=XA (R:=R) (q:=q);rcases Nat.lt_trichotomy n (nA R q)with I|I|I
 ·exact absurd (U.beg n I) (hE (by have:=U.le;omega))
 ·exact I
 ·exact absurd (h.beg _ I) (qB8 (by have:=h.le;omega))
end
theorem qAt{m:Nat}(K:SL R)(hl:∀r∈R,r.length=m):TM R (λp=>p=[]∨∃r∈R,p <+:r) (nN m R):=by
 refine⟨λp=>Iff.rfl,λp _ x=>?_,λp _=>?_⟩
 ·unfold nN;by_cases h:p.length < m
  ·rw[if_pos h,qFi K (λr hr=>by rw[hl r hr];exact h) (qD3 K) XA qB8];constructor
   ·exact Or.inr
   ·rintro (I|I)
    ·simp at I
    ·exact I
  ·rw[if_neg h];constructor
   ·intro I;cases I
   ·rintro (I|⟨r,hr,I⟩)
    ·simp at I
    ·have:=I.length_le;rw[lA,lS,hl r hr]at this;omega
 ·unfold nN;by_cases h:p.length < m
  ·rw[if_pos h];exact qB7 K (λr hr=>by rw[hl r hr];exact h) _ XA
  ·rw[if_neg h];exact List.Pairwise.nil
structure SdM where
 vars:List Int
 rows:List (List Int)
def qS:SdM:=⟨[],[]⟩
def sdO(o:List Int)(s:SdM):Sd:=⟨qN o s.vars,s.rows,nN s.vars.length s.rows⟩
structure SdM.Ok(s:SdM):Prop where
 sl:SL s.rows
 len:∀r∈s.rows,r.length=s.vars.length
theorem qB9{s:SdM}(h:s.Ok):(sdO o s).Ok:=⟨qAt h.sl h.len⟩
theorem Uo{q:List Int}:yU R q=true↔∃r∈R,q <+:r:=by
 unfold yU;rw[List.any_eq_true];constructor
 ·rintro⟨r,hr,h⟩;refine⟨r,hr,?_⟩;rw[<-of_decide_eq_true h];exact List.take_prefix _ _
 ·rintro⟨r,hr,t,I⟩;exact⟨r,hr,decide_eq_true (by rw[<-I,List.take_left])⟩
def SdAt(W:World)(b o:Nat)(s:SdM):Prop:=∃a0 c0 a1 c1,W.cell? ⟨b,o,none⟩=some (.slice a0 s.vars.length c0)/\W.cell? ⟨b,o+1,none⟩=some (.slice a1 s.rows.length c1)/\IS W (.slice a0 s.vars.length c0) s.vars/\ISSc W (.slice a1 s.rows.length c1) s.rows
def ISds(W:World)(v:Value)(ss:List SdM):Prop:=∃a cap,v=.slice a ss.length cap/\(ss.length=0∨∃b o,a=some ⟨b,o,none⟩/\∀j,j < ss.length->SdAt W b (o+j*2) (ss.getD j qS))
theorem SdAt.below{o:Nat}{s:SdM}(h:SdAt W b o s)(hb:Bl W W'):SdAt W' b o s:=by
 obtain⟨a0,c0,a1,c1,I,K,M,O⟩:=h;exact⟨a0,c0,a1,c1,(hb.cell (bL W _ I)).trans I,(hb.cell (bL W _ K)).trans K,M.below hb,O.below hb⟩
def zU(o:List Int)(ss:List SdM)(n:Nat):Nat:=ss.findIdx λs=>qN o s.vars n
theorem qEh{I:List SdM}(h:∃s∈I,qN o s.vars n=true):zU o I n < I.length:=List.findIdx_lt_length_of_exists h
theorem qAD{I:List SdM}(h:zU o I n < I.length):qN o (I.getD (zU o I n) qS).vars n=true:=by
 have:=List.findIdx_getElem (w:=h);rw[gD,bC h];exact this
theorem qEi{I:List SdM}{j:Nat}(h:j < zU o I n)(K:j < I.length):qN o (I.getD j qS).vars n=false:=by
 have:=List.not_of_lt_findIdx h;rw[gD,bC K];exact this
def zx(o:List Int)(ss:List SdM)(p:List Int)(x:Int)(j:Nat):Bool:=(List.range j).all λt=>decide (t=zU o ss p.length)||!qN o (ss.getD t qS).vars p.length||yU (ss.getD t qS).rows (prt (qN o (ss.getD t qS).vars) p++[x])
theorem qCE(o:List Int)(I:List SdM)(p:List Int)(x:Int)(j:Nat):zx o I p x (j+1)=(zx o I p x j&&(decide (j=zU o I p.length)||!qN o (I.getD j qS).vars p.length||yU (I.getD j qS).rows (prt (qN o (I.getD j qS).vars) p++[x]))):=by
 unfold zx;rw[List.range_succ,List.all_append];simp
theorem qEj{I:List SdM}(a4:∀s∈I,s.Ok){p:List Int}(hH:Hld (I.map (sdO o)) p)(hf:zU o I p.length < I.length)(a2:∀s∈I,qN o s.vars p.length=true->(prt (qN o s.vars) p).length < s.vars.length):
 xA (I.map (sdO o)) p=(VA (I.getD (zU o I p.length) qS).rows (prt (qN o (I.getD (zU o I p.length) qS).vars) p) (kA (I.getD (zU o I p.length) qS).rows (prt (qN o (I.getD (zU o I p.length) qS).vars) p)) (nA (I.getD (zU o I p.length) qS).rows (prt (qN o (I.getD (zU o I p.length) qS).vars) p))).filter λx=>zx o I p x I.length:=by
 have M:∀j,j < I.length->I.getD j qS∈I:=λj hj=>by rw[gD,bC hj];exact gM hj
 have hm:=M _ hf;have hh:=qAD hf
 have K:∀s∈I.map (sdO o),s.Ok:=λs hs=>by
  obtain⟨t,V,rfl⟩:=List.mem_map.1 hs;exact qB9 (a4 t V)
 rw[Xn K (List.mem_map_of_mem hm) hH hh];unfold vO;have hc:=a2 _ hm hh;have e:(sdO o (I.getD (zU o I p.length) qS)).N (prt (sdO o (I.getD (zU o I p.length) qS)).H p)=VA (I.getD (zU o I p.length) qS).rows (prt (qN o (I.getD (zU o I p.length) qS).vars) p) (kA (I.getD (zU o I p.length) qS).rows (prt (qN o (I.getD (zU o I p.length) qS).vars) p)) (nA (I.getD (zU o I p.length) qS).rows (prt (qN o (I.getD (zU o I p.length) qS).vars) p)):=if_pos hc;rw[e];refine List.filter_congr λx hx=>?_;rw[<-e]at hx;rw[Bool.eq_iff_iff,kL];unfold zx;rw[bY];constructor
 ·intro h t V;have U:=List.mem_range.1 V;by_cases e1:t=zU o I p.length
  ·simp[e1]
  ·cases hb:qN o (I.getD t qS).vars p.length
   ·simp
   ·have O:=h _ (List.mem_map_of_mem (M t U)) hb;rw[(K _ (List.mem_map_of_mem (M t U))).tm.mem _ (hH _ (List.mem_map_of_mem (M t U)))]at O;rcases O with O|O
    ·simp at O
    ·have h2:yU (I.getD t qS).rows (prt (qN o (I.getD t qS).vars) p++[x])=true:=Uo.2 O;rw[h2,Bool.or_true]
 ·intro h s hs a3;obtain⟨q,hq,rfl⟩:=List.mem_map.1 hs;obtain⟨t,V,rfl⟩:=gO hq;have hg:I.getD t qS=I[t]:=by rw[gD,bC V];rfl
  rw[<-hg]at hs a3 ⊢;by_cases e1:t=zU o I p.length
  ·rw[e1];exact hx
  ·have O:=h t (List.mem_range.2 V);have a5:qN o (I.getD t qS).vars p.length=true:=a3;rw[decide_eq_false e1,a5]at O;have h2:yU (I.getD t qS).rows (prt (qN o (I.getD t qS).vars) p++[x])=true:=by simpa using O
   exact((K _ hs).tm.mem _ (hH _ hs) x).2 (Or.inr (Uo.1 h2))
theorem upJ{o:Nat}(hb:Bl X Y)(I:X.cell? ⟨b,o,none⟩=some v):Y.cell? ⟨b,o,none⟩=some v:=(hb.cell (p:=⟨b,o,none⟩) (bL X _ I)).trans I
theorem qAu(W:World)(I K:Value):Bl W (W.alloc (.cells #[I,K] 141))/\(W.alloc (.cells #[I,K] 141)).cell? ⟨W.heap.size,0,none⟩=some I/\(W.alloc (.cells #[I,K] 141)).cell? ⟨W.heap.size,1,none⟩=some K:=by
 refine⟨(bM _ _).alloc (bK _) _,?_,?_⟩;all_goals(rw[cA _ _ _ _ rfl];rfl)
structure JN(w W:World)(g3:Nat)(PB:Obj)(g c lk:Nat)(L:List Int):Prop where
 bel:Bl w W
 prt:W.heap[g3]?=some PB
 own:W.ownsRow w.heap.size 3 1 (.slice (some ⟨g,0,none⟩) lk c) lk (L.map (Value.int .i64))
 ne:g≠g3
theorem ltJ{o:Obj}(h:W.heap[b]?=some o):b < W.heap.size:=(Array.getElem?_eq_some_iff.1 h).1
theorem JN.below(h:JN w W g3 PB g c lk L)(hb:Bl W W'):JN w W' g3 PB g c lk L:=
 ⟨bt h.bel hb,(hb.block _ (ltJ h.prt)).trans h.prt,qB h.own hb,h.ne⟩
theorem JN.push{w3:World}{g' c':Nat}{o:Obj}(h:JN w W g3 PB g c lk L)(O:(W.alloc o).grownBy w3 (Value.slice (some ⟨g,0,none⟩) lk c).ownBlock)(I:w3.ownsRow w.heap.size 3 1 (.slice (some ⟨g',0,none⟩) (lk+1) c') (lk+1) (L.map (Value.int .i64)++[.int .i64 x]))(K:(Value.slice (some ⟨g,0,none⟩) lk c).ownBlock=some g'∨g'=(W.alloc o).heap.size):JN w w3 g3 PB g' c' (lk+1) (L++[x]):=by
 have hl:=ltJ h.prt;refine⟨?_,?_,by rw[mA];exact I,?_⟩
 ·exact(h.bel.alloc h.bel.size _).grown O (by rw[World.size_alloc];have:=h.bel.size;omega) (λq hq=>(h.own.lt q hq).1)
 ·exact(zI O hl (λe=>h.ne (by simp[Value.ownBlock]at e;exact e.symm))).trans h.prt
 ·rcases K with M|M
  ·have:g=g':=by simpa[Value.ownBlock]using M
   rw[<-this];exact h.ne
  ·rw[M,World.size_alloc];omega
theorem qDM{a:Addr}(hb:Bl X Y)(I:X.cell? a=some v):Y.cell? a=some v:=(hb.cell (bL X _ I)).trans I
theorem qEk{B:Nat}{l:List Int}(h:w.ownsRow B 3 1 v (n+1) (l.map (Value.int .i64)++[.int .i64 x])):IS w v (l++[x]):=by
 have e:n+1=(l++[x]).length:=by have:=h.1;simp at this;simp;omega
 rw[e]at h;exact qK (by rw[mA];exact h)
section
variable {P:Program} (w:World)
theorem kd{ops:Array Oper}{o:Oper}{a:Act}{K:Act->World->Prop}{Q:Exit->Act->World->Prop}{E:Prop}(hw:Region.wanted o (yielded ops a.tmps)=true)(s x:Operand)(t:TypeId)
 (ho:o.op=.call { callee:=.builtin .append,args:=#[s,x],argTypes:=#[t,t] })
 (base:Nat) (e:TypeId) (i:TypeInfo) (z:Value) (size bytes:Nat) (ht:P.underlying t=some (.slice e)) (hi:P.info? e=some i) (hz:i.zero=some z)
 (M:i.size=size) (a2:i.bytes=bytes) (a3:z.cells.size=size) (a4:0 < size)
 (v:Value) (n:Nat) (xs:List Value) (hs:a.eval s=v) (V:w.ownsRow base e size v n xs)
 (ad:Addr) (m c:Nat) (news:List Value) (hx:a.eval x=.slice (some ad) m c) (hl:news.length=m*size) (O:∀j u,news[j]?=some u->w.cell? (ad.add j)=some u) (h1:∀u∈news,u.oneCell'=true)
 (hm:0 < m) (a5:n+m<=maxLen) (I:(n+m)*bytes<=140737488355328) (U:base<=w.heap.size) (H:Nat) (hH:w.heap.size=H)
 (h:∀g cap w',w'.ownsRow base e size (.slice (some ⟨g,0,none⟩) (n+m) cap) (n+m) (xs++news)->w.grownBy w' v.ownBlock->(v.ownBlock=some g∨g=H)->g < w'.heap.size->K (a.put o.dst (.slice (some ⟨g,0,none⟩) (n+m) cap)) w'):
 if Region.wanted o (yielded ops a.tmps)=true then Oper.wp P o a w K Q else E:=by
 rw[if_pos hw];exact wp_append_lies w s x t ho base e i z size bytes ht hi hz M a2 a3 a4 v n xs hs V ad m c news hx hl O h1 hm a5 I U H hH h
end
theorem Uv(w:World)(v vo vp:Value)(I:List SdM)(o p:List Int)(h:ISds w v I)(ho:IS w vo o)(hp:IS w vp p)(l0:p.length < o.length)(t4:o.length<=1000)(t5:I.length<=1000)(i7:∀s∈I,s.Ok/\s.rows.length<=100000/\s.vars.length<=1000)(hH:Hld (I.map (sdO o)) p)(hf:zU o I p.length < I.length)(e6:∀s∈I,(prt (qN o s.vars) p).length<=s.vars.length/\(qN o s.vars p.length=true->(prt (qN o s.vars) p).length < s.vars.length)):
 Cl 50 #[v,vo,vp] w λe w'=>∃g c,e=.returned (.slice (some ⟨g,0,none⟩) (xA (I.map (sdO o)) p).length c)/\w'.ownsRow w.heap.size 3 1 (.slice (some ⟨g,0,none⟩) (xA (I.map (sdO o)) p).length c) (xA (I.map (sdO o)) p).length ((xA (I.map (sdO o)) p).map (Value.int .i64))/\Bl w w':=by
 obtain⟨i0,hi,l1,l2,l3⟩:=info_parts Tryz.infoInt;rw[qEj (λs hs=>(i7 s hs).1) hH hf (λs hs=>(e6 s hs).2)];have i8:∀j,j < I.length->I.getD j qS∈I:=λj hj=>by rw[gD,bC hj];exact gM hj
 have i9:=qAD hf;have e7:∀j,j < zU o I p.length->j < I.length->qN o (I.getD j qS).vars p.length=false:=λj h1 h2=>qEi h1 h2;obtain⟨aS,cS,rfl,hS⟩:=h;rcases hS with h0|⟨bS,oS,rfl,hS⟩
 ·omega
 have HO:=hid ho;have HP:=hid hp;obtain⟨ao,co,rfl,j0⟩:=ho;obtain⟨ap,o6,rfl,-⟩:=hp;rcases j0 with h0|⟨bo,qo,rfl,j0⟩
 ·omega
 have c1:w.cell? ⟨bo,qo+p.length,none⟩=some (.int .i64 (o.getD p.length 0)):=j0 p.length l0;obtain⟨F,hF⟩:∃F,F=zU o I p.length:=⟨_,rfl⟩;rw[<-hF]at hf i9 e7 ⊢;have o7:Hid (∀x j,zx o I p x (j+1)=(zx o I p x j&&(decide (j=F)||!qN o (I.getD j qS).vars p.length||yU (I.getD j qS).rows (prt (qN o (I.getD j qS).vars) p++[x])))):=hid λx j=>by rw[qCE,hF]
 have t6:Hid (∀x,zx o I p x 0=true):=hid λx=>rfl;obtain⟨AN,l4⟩:∃AN,AN=(VA (I.getD F qS).rows (prt (qN o (I.getD F qS).vars) p) (kA (I.getD F qS).rows (prt (qN o (I.getD F qS).vars) p)) (nA (I.getD F qS).rows (prt (qN o (I.getD F qS).vars) p))).filter λx=>zx o I p x I.length:=⟨_,rfl⟩;rw[<-l4];have t7:=hid l4;clear hF hH j0 l4;obtain⟨n,hn⟩:∃n,n=p.length:=⟨_,rfl⟩;obtain⟨no,l5⟩:∃no,no=o.length:=⟨_,rfl⟩;obtain⟨O,l6⟩:∃O,O=I.length:=⟨_,rfl⟩;have HN:=hid (And.intro hn (And.intro l5 l6));have KH:Hid (∀W a0 c0 j,j < O->IS W (.slice a0 (I.getD j qS).vars.length c0) (I.getD j qS).vars->Cl 16 #[.slice a0 (I.getD j qS).vars.length c0,.int .i64 (o.getD p.length 0)] W λe w'=>e=.returned (.bool (qN o (I.getD j qS).vars p.length))/\w'=W):=hid λW a0 c0 j hj hI=>qU W _ _ _ hI (by have:=(i7 _ (i8 j Oo)).2.2;omega);rw[<-hn]at c1 l0 i9 e7 KH o7 ⊢;rw[<-l5]at l0 t4 ⊢;rw[<-l6]at t5 hf e7 i8 hS ⊢;have HS:=hid hS;have t8:=hid e7;have o8:=hid i9;have o9:=hid i7;have p5:=hid e6;have j2:=hid i8;clear hn l5 l6 hS e7 i9 i7 e6 i8;generalize o.getD n 0=ov at *;have p6:(n:Int) < (no:Int):=Oo;obtain⟨W1,j3⟩:∃W1,W1=w.alloc (.cells #[] 3):=⟨_,rfl⟩;have l7:Hid (Bl w W1):=hid (by rw[j3];exact(bM _ _).alloc (bK _) _);have p7:Hid (W1.ownsRow w.heap.size 3 1 (.slice (some ⟨w.heap.size,0,none⟩) 0 0) 0 []):=hid (by rw[j3];exact oM w #[] 0 (bK _) Dd rfl);go_enter Tryz.func50,Tryz.ntmps50
 go_upto_region 3 with fail
 rw[<-j3];clear j3 c1;go_upto_block 0 with fail
 go_cut [9] (λv9 wx=>v9=.int .i64 (F:Int)/\Hid (Bl W1 wx))
 case first=>
  go_wp2_with fail
  go_loopw [9,28] (λv9 t wr=>∃U:Nat,U<=O/\t=.int .i64 U/\v9=.int .i64 (if F < U then (F:Int) else -1)/\Hid (Bl W1 wr)) (λ_ t _=>O - (intOf t).toNat)
  case atStart=>exact⟨0,nZ _,rfl,by rw[if_neg Oo],hid (bM _ _)⟩
  case round=>
   obtain⟨U,A8,rfl,rfl,HB⟩:=hrel;by_cases a5:U < O
   ·have i1:(U:Int) < (O:Int):=Oo;obtain⟨a0,c0,a1,e8,e0,e1,e2,-⟩:=HS.out U a5;have K:=bt l7.out HB.out;replace e0:=upJ K e0;replace e1:=upJ K e1;obtain⟨l8,d0,d1⟩:=qAu wr (.slice a0 (I.getD U qS).vars.length c0) (.slice a1 (I.getD U qS).rows.length e8);have t9:=hid (e2.below (bt K l8));have l9:=hid (bt HB.out l8);clear e2 l8 K;have HK:=hid (KH.out _ a0 c0 U a5 t9.out);by_cases p8:F < U
    ·rw[if_pos p8];have i2:¬(F:Int) < 0:=Oo;clear HK KH;go_wp2_with fail
     go_roundw
     case rel=>exact⟨U+1,Oo,Gg,by rw[if_pos Oo],l9⟩
     case measure=>simp[intOf];omega
    ·rw[if_neg p8];by_cases m0:U=F
     ·have hy:qN o (I.getD U qS).vars n=true:=by rw[m0];exact o8.out
      rw[hy]at HK;have HEq:=hid m0;have p9:F < U+1:=Oo;clear KH hy m0;go_wp2_with (first|(go_at_call 16;refine HK.out.mono ?_;rintro e w2 ⟨rfl,u4⟩;subst w2)|fail)
      go_roundw
      case rel=>exact⟨U+1,Oo,Gg,by rw[if_pos p9,HEq.out],l9⟩
      case measure=>simp[intOf];omega
     ·have hy:qN o (I.getD U qS).vars n=false:=t8.out U Oo a5;rw[hy]at HK;clear KH hy;go_wp2_with (first|(go_at_call 16;refine HK.out.mono ?_;rintro e w2 ⟨rfl,u4⟩;subst w2)|fail)
      go_roundw
      case rel=>exact⟨U+1,Oo,Gg,by rw[if_neg Oo],l9⟩
      case measure=>simp[intOf];omega
   ·obtain rfl:U=O:=Oo;have i1:¬(U:Int) < (U:Int):=Oo;rw[if_pos Oo];go_wp2_with fail
    go_meet;exact⟨rfl,HB⟩
 case rest=>
 obtain⟨rfl,hcut⟩:=hcut;have m1:=hcut;clear hcut;generalize wc=W2 at *;obtain⟨a0,c0,a1,e8,e0,e1,e2,e3⟩:=HS.out F hf;have K:=bt l7.out m1.out;have A9:(F:Int) < (O:Int):=Oo;replace e0:=upJ K e0;replace e1:=upJ K e1;have u5:=hid (e2.below K);have q0:=hid (e3.below K);have q8:=hid e3;have B0:=hid K;obtain⟨⟨f4,b7⟩,u6,m2⟩:=o9.out _ (j2.out F hf);obtain⟨-,q9⟩:=p5.out _ (j2.out F hf);have z4:=q9 (by have:=o8.out;rw[HN.out.1]at this;exact this);have m3:=hid f4;have j4:=hid b7;clear e2 e3 f4 b7 q9;generalize hfd:I.getD F qS=f at *;have B1:=hid hfd;clear hfd
 have r0:Hid (∀W,Bl W2 W->Cl 85 #[.agg #[.slice a0 f.vars.length c0,.slice a1 f.rows.length e8],.slice (some ⟨bo,qo,none⟩) no co,.slice ap n o6] W λe w'=>∃g c,e=.returned (.slice (some ⟨g,0,none⟩) (prt (qN o f.vars) p).length c)/\w'.ownsRow W.heap.size 3 1 (.slice (some ⟨g,0,none⟩) (prt (qN o f.vars) p).length c) (prt (qN o f.vars) p).length ((prt (qN o f.vars) p).map (Value.int .i64))/\Bl W w'):=hid λW hW=>by
  have h1:=HO.out.below (bt K hW);have h2:=HP.out.below (bt K hW);have:=QN W a0 a1 f.rows.length c0 e8 _ _ f.vars o p (u5.out.below hW) h1 h2 (by have:=HN.out;omega) (by have:=HN.out;omega) m2;rw[<-HN.out.1,<-HN.out.2.1]at this;exact this
 generalize hq:prt (qN o f.vars) p=q at *;have HQ:=hid hq;clear hq;go_upto_region 12 with (first|(go_at_call 85;refine(r0.out W2 (bM _ _)).mono ?_;rintro e w3 ⟨g3,c3,rfl,j5,m4⟩)|fail)
 have r1:=hid (qK j5);have r2:=hid (q0.out.below m4);have m5:=hid (bt m1.out m4);have r3:=hid j5;have f7:=j5.lt g3 rfl;have z5:=m1.out.size;have z9:w.heap.size < W1.heap.size:=(p7.out.lt w.heap.size rfl).2;have m6:=hid (QR w3 _ _ f.rows q r2.out r1.out m3.out Oo (λr hr=>by have:=j4.out r hr;omega));have m7:Hid (∀d,JN w (w3.drewN d) g3 (w3.heap[g3]'f7.2) w.heap.size 0 0 []):=hid λd=>⟨below_drewN (bt l7.out m5.out) d,Array.getElem?_eq_getElem f7.2,qB p7.out (below_drewN m5.out d),Oo⟩
 have r4:Hid (∀W,W.heap[g3]?=some (w3.heap[g3]'f7.2)->IS W (.slice (some ⟨g3,0,none⟩) q.length c3) q):=hid λW hW=>qK (qA r3.out λb hb=>by
  have e:g3=b:=by simpa[Value.ownBlock]using hb
  subst e;rw[hW,Array.getElem?_eq_getElem f7.2])
 generalize w3.heap[g3]'f7.2=PB at m7 r4;clear j5 m4 r0 e0 e1;go_upto_region 13 with (first|(go_at_call 86;refine m6.out.mono ?_;rintro e w4 ⟨k,rfl,j6,dq,rfl⟩)|fail)
 have m8:=hid (m7.out dq);generalize w3.drewN dq=W4 at m8 ⊢;obtain⟨R,hR⟩:∃R,R=f.rows:=⟨_,rfl⟩;obtain⟨nr,f8⟩:∃nr,nr=f.rows.length:=⟨_,rfl⟩;have u9:=hid hR;have a6:Hid (nr=R.length):=hid (by rw[hR];exact f8);have v3:k<=nr:=by rw[f8];exact j6.le
 rw[<-hR]at m3 j4 j6 m6;have v4:Hid (ISSc w (.slice a1 nr e8) R):=hid (by rw[hR,f8];exact q8.out);have A0:nr<=100000:=Oo;rw[<-f8];have v5:=hid j6
 have a4:Hid (∀m,Run R q k m->(k+m < nr->(R.getD (k+m) []).take q.length≠q)->((VA R q k m).filter λx=>zx o I p x O)=AN):=hid λm h1 h2=>by
  obtain⟨e1,e2⟩:=qDI m3.out v5.out h1 (by have:=a6.out;rw[<-this];exact h2);rw[t7.out,<-u9.out,<-e1,<-e2,HN.out.2.2]
 clear hR f8 j6 m6 r2 q0 q8 m7 m5 r3 r1;go_upto_block 2 with fail
 go_wp2_with fail
 go_loopg [8,15] (nr - k) (λgk v8 v6 wx=>∃(m g c lk:Nat),k+m<=nr/\v6=.int .i64 ((k+m:Nat):Int)/\v8=.slice (some ⟨g,0,none⟩) lk c/\lk<=m/\gk=nr - (k+m)/\Hid (Run R q k m/\lk=((VA R q k m).filter λx=>zx o I p x O).length/\JN w wx g3 PB g c lk ((VA R q k m).filter λx=>zx o I p x O)))
 case atStart=>exact⟨0,w.heap.size,0,0,v3,by rfl,rfl,bK _,Oo,hid ⟨⟨by have:=a6.out;omega,λj hj=>Oo⟩,rfl,m8.out⟩⟩
 case round=>
  clear m8;obtain⟨m,g,c,lk,B2,rfl,rfl,B3,B4,HI⟩:=hrel;generalize wr=wo at *;obtain⟨k5,k7,r5⟩:=HI.out;have f9:=hid k5;have g2:=hid k7;have a2:=hid r5;clear HI k5 k7 r5;by_cases v7:k+m < nr
  ·have q1:((k+m:Nat):Int) < (nr:Int):=Oo;obtain⟨aR,cR,eR,g4⟩:=v4.out;simp only[Value.slice.injEq]at eR;obtain⟨rfl,-,rfl⟩:=eR;rcases g4 with h0|⟨bR,oR,rfl,g4⟩
   ·have:=a6.out;omega
   obtain⟨u,hu,⟨au,cu,rfl,g5⟩,k8⟩:=g4 (k+m) (by have:=a6.out;omega);have w0:R.getD (k+m) []∈R:=by rw[gD,bC (by have:=a6.out;omega)];exact gM _
   have b7:=j4.out _ w0;rcases g5 with h0|⟨bU,oU,rfl,g5⟩
   ·omega
   have x0:(R.getD (k+m) []).length<=cu:=by obtain⟨_,_,_,e9,h9⟩:=k8;simp only[Value.slice.injEq]at e9;omega
   have r6:=hid g4;obtain⟨lr,r7⟩:∃lr,lr=(R.getD (k+m) []).length:=⟨_,rfl⟩;have r8:wo.cell? ⟨bR,oR+(k+m),none⟩=some (.slice (some ⟨bU,oU,none⟩) lr cu):=by rw[r7];exact upJ a2.out.bel hu
   have a7:Hid (∀W,W.heap[g3]?=some PB->Bl w W->Cl 81 #[.slice (some ⟨bU,oU,none⟩) q.length cu,.slice (some ⟨g3,0,none⟩) q.length c3] W λe w'=>e=.returned (.int .i64 (cmpL ((R.getD (k+m) []).take q.length) q))/\∃d,w'=W.drewN d):=hid λW h1 h2=>zB W _ _ _ _ (X7 ((show IS w (.slice (some ⟨bU,oU,none⟩) (R.getD (k+m) []).length cu) (R.getD (k+m) []) from ⟨_,_,rfl,Or.inr ⟨bU,oU,rfl,g5⟩⟩).below h2) Oo) (r4.out W h1) (by rw[bZ];omega) Oo;have cX:wo.cell? ⟨bU,oU+q.length,none⟩=some (.int .i64 (vlA R q (k+m))):=upJ a2.out.bel (g5 q.length Oo);have A1:(q.length:Int) < (lr:Int):=Oo;have A2:(q.length:Int)<=(cu:Int):=Oo;clear g4 k8 hu g5 r7 x0 b7;by_cases hz:(R.getD (k+m) []).take q.length=q
   ·rw[hz,zp]at a7;have HZ:=hid hz;clear hz;have k0:=hid (a7.out wo a2.out.prt a2.out.bel);clear a7;go_upto_if 74 with (first|(go_at_call 81;refine k0.out.mono ?_;rintro e w5 ⟨rfl,d5,rfl⟩)|fail)
    have b9:=hid (a2.out.below (below_drewN (bM _ _) d5));have m9:(wo.drewN d5).cell? ⟨bU,oU+q.length,none⟩=some (.int .i64 (vlA R q (k+m))):=cX;have r9:(wo.drewN d5).cell? ⟨bR,oR+(k+m),none⟩=some (.slice (some ⟨bU,oU,none⟩) lr cu):=r8;generalize wo.drewN d5=W5 at b9 m9 r9 ⊢
    have g6:Run R q k (m+1):=⟨by have:=a6.out;omega,λj hj=>by
     by_cases e:j=m
     ·subst e;exact HZ.out
     ·exact f9.out.beg j Oo⟩
    have c9:=hid g6;obtain⟨x,hx⟩:∃x,x=vlA R q (k+m):=⟨_,rfl⟩;have HX:=hid hx;rw[<-hx]at m9;obtain⟨nw,n3⟩:∃nw,nw=QJ R q k m:=⟨_,rfl⟩;have n4:=hid n3
    have s1:Hid (0 < m->∃bP oP lp cp y,W5.cell? ⟨bR,oR+(k+m - 1),none⟩=some (.slice (some ⟨bP,oP,none⟩) lp cp)/\q.length < lp/\W5.cell? ⟨bP,oP+q.length,none⟩=some (.int .i64 y)/\(y == x)=!nw):=hid λhm=>by
     obtain⟨u',x1,⟨B5,x2,rfl,h3⟩,-⟩:=r6.out (k+m - 1) (by have:=a6.out;omega);have s2:R.getD (k+m - 1) []∈R:=by rw[gD,bC (by have:=a6.out;omega)];exact gM _
     have A3:=j4.out _ s2;rcases h3 with h0|⟨bP,oP,rfl,h3⟩
     ·omega
     ·refine⟨bP,oP,_,x2,vlA R q (k+m - 1),upJ b9.out.bel x1,Oo,upJ b9.out.bel (h3 q.length Oo),?_⟩;rw[n3,hx];unfold QJ;rw[decide_eq_false (show ¬m=0 by omega),Bool.false_or,Bool.not_not];rfl
    clear cX r8 k0 g6 hx n3 r6;go_upto_region 17 with fail
    clear m9 r9;go_cut [100] from 59 to 135 (λu wx=>u=.bool (!nw)/\wx=W5)
    case first=>
     by_cases x3:0 < m
     ·obtain⟨bP,oP,lp,cp,y,p1,p2,p3,p4⟩:=s1.out x3;have q3:(k:Int) < (k:Int)+(m:Int):=Oo;have q4:(k:Int)+(m:Int) - 1=((k+m - 1:Nat):Int):=Oo;have q5:((k+m - 1:Nat):Int) < (nr:Int):=Oo;have q6:(q.length:Int) < (lp:Int):=Oo;go_wp2_with fail
      go_meet;exact⟨by rw[<-p4],rfl⟩
     ·have q3:¬(k:Int) < (k:Int)+(m:Int):=Oo;have p6:nw=true:=by rw[n4.out];unfold QJ;rw[decide_eq_true (show m=0 by omega)];rfl
      subst p6;go_wp2_with fail
      go_meet;exact⟨rfl,rfl⟩
    case rest=>
    obtain⟨rfl,B6⟩:=hcut;subst wc;clear s1;cases nw
    ·have h4:Hid (VA R q k (m+1)=VA R q k m):=hid (by unfold VA;rw[YA n4.out.symm]);go_wp2_with fail
     go_roundg (nr - (k+(m+1)))
     case measure=>omega
     case rel=>exact⟨m+1,g,c,lk,Oo,Gg,rfl,Oo,rfl,hid ⟨c9.out,by rw[h4.out];exact g2.out,by rw[h4.out];exact b9.out⟩⟩
    ·have h4:Hid (VA R q k (m+1)=VA R q k m++[x]):=hid (by unfold VA;rw[JH n4.out.symm,mA,HX.out];rfl);go_upto_block 4 with fail
     go_cut [17] from 59 to 135 (λu wx=>u=.bool (zx o I p x O)/\Hid (Bl W5 wx))
     case first=>
      go_wp2_with fail
      go_loopw [17,103] (λx4 t wy=>∃j:Nat,j<=O/\t=.int .i64 j/\x4=.bool (zx o I p x j)/\Hid (Bl W5 wy)) (λ_ t _=>O - (intOf t).toNat)
      case atStart=>exact⟨0,nZ _,rfl,by rw[t6.out x],hid (bM _ _)⟩
      case round=>
       obtain⟨j,B7,rfl,rfl,HB⟩:=hrel;generalize wr=wy at *;by_cases a5:j < O
       ·have j1:(j:Int) < (O:Int):=Oo;obtain⟨b0,d0,b1,d1,e0,e1,e2,e3⟩:=HS.out j a5;have K:=bt b9.out.bel HB.out;replace e0:=upJ K e0;replace e1:=upJ K e1;have d9:=hid (o7.out x j);obtain⟨⟨f4,b7⟩,u6,m2⟩:=o9.out _ (j2.out j a5);obtain⟨s3,n5⟩:=p5.out _ (j2.out j a5);have n6:=hid λW (hW:Bl wy W)=>KH.out W b0 d0 j a5 (e2.below (bt K hW));generalize hsd:I.getD j qS=sd at *;generalize hal:zx o I p x j=al at *;obtain⟨hy,n8⟩:∃hy,hy=qN o sd.vars n:=⟨_,rfl⟩;rw[<-n8]at d9 n6;have x5:=hid n8;have B8:=hid hsd;clear n8 hsd hal;obtain⟨V,h5⟩:∃V,V=wy.alloc (.cells #[.slice b0 sd.vars.length d0,.slice b1 sd.rows.length d1] 141):=⟨_,rfl⟩;have e4:Bl wy V:=by rw[h5];exact(bM _ _).alloc (bK _) _
        have f0:V.cell? ⟨wy.heap.size,0,none⟩=some (.slice b0 sd.vars.length d0):=by rw[h5];exact(qAu _ _ _).2.1
        have f1:V.cell? ⟨wy.heap.size,1,none⟩=some (.slice b1 sd.rows.length d1):=by rw[h5];exact(qAu _ _ _).2.2
        have a8:=hid (bt HB.out e4);have n9:=hid (n6.out V e4);go_upto_region 22 with fail
        rw[<-h5];clear h5 e0 e1 n6;by_cases h6:j=F
        ·have q7:((j:Int) != (F:Int))=false:=by simp;omega
         have M:zx o I p x (j+1)=al:=by rw[d9.out,decide_eq_true h6];simp
         have a3:=hid M;clear M h6 n9;go_wp2_with fail
         go_roundw
         case rel=>first|exact⟨j+1,Oo,Gg,by rw[a3.out],a8⟩|((repeat apply Exists.intro);exact⟨⟨j+1,Oo,Gg,by rw[a3.out],a8⟩,rfl⟩)
         case measure=>simp[intOf];omega
        ·have q7:((j:Int) != (F:Int))=true:=by simp;omega
         cases hy
         ·have M:zx o I p x (j+1)=al:=by rw[d9.out];simp
          have a3:=hid M;clear M h6;go_wp2_with (first|(go_at_call 16;refine n9.out.mono ?_;rintro e w7 ⟨rfl,x7⟩;subst w7)|fail)
          go_roundw
          case rel=>first|exact⟨j+1,Oo,Gg,by rw[a3.out],a8⟩|((repeat apply Exists.intro);exact⟨⟨j+1,Oo,Gg,by rw[a3.out],a8⟩,rfl⟩)
          case measure=>simp[intOf];omega
         ·have s4:=hid (e2.below (bt K e4));have s5:=hid (e3.below (bt K e4));have s6:=hid (HO.out.below (bt K e4));have s7:=hid (HP.out.below (bt K e4));obtain⟨pq,o2⟩:∃pq,pq=prt (qN o sd.vars) p:=⟨_,rfl⟩;rw[<-o2]at d9 s3 n5;have A4:pq.length < sd.vars.length:=n5 (by have:=x5.out;rw[HN.out.1]at this;exact this.symm);have A5:pq.length<=1000:=Oo
          have o3:Hid (∀W,Bl V W->Cl 85 #[.agg #[.slice b0 sd.vars.length d0,.slice b1 sd.rows.length d1],.slice (some ⟨bo,qo,none⟩) no co,.slice ap n o6] W λe w'=>∃g c,e=.returned (.slice (some ⟨g,0,none⟩) pq.length c)/\w'.ownsRow W.heap.size 3 1 (.slice (some ⟨g,0,none⟩) pq.length c) pq.length (pq.map (Value.int .i64))/\Bl W w'):=hid λW hW=>by
           have:=QN W b0 b1 sd.rows.length d0 d1 _ _ sd.vars o p (s4.out.below hW) (s6.out.below hW) (s7.out.below hW) (by have:=HN.out;omega) (by have:=HN.out;omega) m2;rw[<-HN.out.1,<-HN.out.2.1,<-o2]at this;exact this
          have s8:Hid (∀W vq,Bl V W->IS W vq (pq++[x])->Cl 87 #[.slice b1 sd.rows.length d1,vq] W λe w'=>e=.returned (.bool (yU sd.rows (pq++[x])))/\∃d,w'=W.drewN d):=hid λW vq hW hI=>X8 W _ _ sd.rows _ (s5.out.below hW) hI f4 Oo (λr hr=>by have:=b7 r hr;rw[lA,lS];omega);have M:zx o I p x (j+1)=(al&&yU sd.rows (pq++[x])):=by rw[d9.out,decide_eq_false h6];simp
          have a3:=hid M;clear M h6 d9 s3 n5 o2 s4 s5 s6 s7 f4 b7 e2 e3;generalize yU sd.rows (pq++[x])=bg at *;go_upto_region 23 with (first|(go_at_call 16;refine n9.out.mono ?_;rintro e w7 ⟨rfl,x7⟩;subst w7)|fail)
          cases al
          ·clear o3 s8;go_quiet (fail)
           go_wp2_with fail
           go_roundw
           case rel=>first|exact⟨j+1,Oo,Gg,by rw[a3.out];rfl,hid (below_drewN a8.out _)⟩|((repeat apply Exists.intro);exact⟨⟨j+1,Oo,Gg,by rw[a3.out];rfl,hid (below_drewN a8.out _)⟩,rfl⟩)
           case measure=>simp[intOf];omega
          ·have e5:Hid (∀W,Bl V W->W.cell? ⟨wy.heap.size,0,none⟩=some (.slice b0 sd.vars.length d0)/\W.cell? ⟨wy.heap.size,1,none⟩=some (.slice b1 sd.rows.length d1)/\Bl V W):=hid λW hW=>⟨upJ hW f0,upJ hW f1,hW⟩
           first|go_region_held_law (λW=>W.cell? ⟨wy.heap.size,0,none⟩=some (.slice b0 sd.vars.length d0)/\W.cell? ⟨wy.heap.size,1,none⟩=some (.slice b1 sd.rows.length d1)/\Bl V W)
            (first
             |with_reducible exact e5.out _ (bM _ _).drew
             |with_reducible exact e5.out _ ((bM _ _).alloc (bK _) _).drew
             |with_reducible exact e5.out _ o4
             |with_reducible exact e5.out _ k1
             |with_reducible exact e5.out _ d6
             |with_reducible exact e5.out _ (d6.alloc h7 _)
             |fail)
            (first
             |(refine kd _ (by rfl) _ _ 25 rfl V.heap.size 3 i0 (.int .i64 0) 1 8 Tryz.underlying25 hi l1 l2 l3 rfl Dd (.slice (some ⟨g7,0,none⟩) pq.length c7) pq.length _ rfl (i3.alloc _) ⟨w7.heap.size,0,none⟩ 1 1 [.int .i64 x] rfl rfl (qH _ _ _) (λu hu=>by simp at hu;subst hu;rfl) Dd (by unfold maxLen;omega) Oo (by rw[World.size_alloc];omega) _ rfl ?_;intro g8 c8 w8 s9 o5 y0 z0;have k1:Bl V w8:=(d6.alloc h7 _).grown o5 (by rw[World.size_alloc];omega) (λq hq=>(i3.lt q hq).1))
             |(refine kd _ (by rfl) _ _ 25 rfl V.heap.size 3 i0 (.int .i64 0) 1 8 Tryz.underlying25 hi l1 l2 l3 rfl Dd (.slice (some ⟨g7,0,none⟩) pq.length c7) pq.length _ rfl i3 ⟨V.heap.size,0,none⟩ 1 1 [.int .i64 x] rfl rfl t0 (λu hu=>by simp at hu;subst hu;rfl) Dd (by unfold maxLen;omega) Oo h7 _ rfl ?_;intro g8 c8 w8 s9 o5 y0 z0;have k1:Bl V w8:=d6.grown o5 h7 (λq hq=>(i3.lt q hq).1))
             |(go_simp;go_at_call 85;(with_reducible refine(o3.out _ (bM _ _).drew).mono ?_);rintro e w7 ⟨g7,c7,rfl,i4,d7⟩;have d6:Bl V w7:=(bM _ _).drew.trans d7;have i3:=qF (B':=V.heap.size) i4 (bK _);have h7:=d6.size)
             |(go_simp;go_at_call 85;(with_reducible refine(o3.out _ ((bM _ _).alloc (bK _) _).drew).mono ?_);rintro e w7 ⟨g7,c7,rfl,i4,d7⟩;have d6:Bl V w7:=((bM _ _).alloc (bK _) _).drew.trans (d7.mono Ss);have i3:=qF (B':=V.heap.size) i4 Ss;have h7:=d6.size;have t0:∀jj u,[Value.int .i64 x][jj]?=some u->w7.cell? ((⟨V.heap.size,0,none⟩:Addr).add jj)=some u:=(λjj u hu=>qDM d7 (qH V (.int .i64 x) _ jj u hu)))
             |(go_simp;go_at_call 87;refine(s8.out _ _ k1 (qEk s9)).mono ?_;rintro e w9 ⟨rfl,dd,rfl⟩;have o4:=below_drewN k1 dd)
             |fail)|fail
           all_goals(go_wp2_with fail;go_roundw)
           all_goals first
            |exact⟨j+1,Oo,Gg,by rw[a3.out];rfl,hid (bt a8.out o4)⟩
            |((repeat apply Exists.intro);exact⟨⟨j+1,Oo,Gg,by rw[a3.out];rfl,hid (bt a8.out o4)⟩,rfl⟩)
            |(simp[intOf];omega)
       ·obtain rfl:j=O:=Oo;have j1:¬(j:Int) < (j:Int):=Oo;go_wp2_with fail
        go_meet;exact⟨rfl,HB⟩
     case rest=>
     obtain⟨rfl,hcut⟩:=hcut;have k4:=hid (b9.out.below hcut.out);have A6:=k4.out.bel.size;clear hcut b9;generalize hal:zx o I p x O=al at *;have t1:=hid hal;clear hal;cases al
     ·have i5:Hid ((VA R q k (m+1)).filter (λy=>zx o I p y O)=(VA R q k m).filter λy=>zx o I p y O):=hid (by rw[h4.out,List.filter_append];simp[t1.out]);go_wp2_with fail
      go_roundg (nr - (k+(m+1)))
      case measure=>omega
      case rel=>exact⟨m+1,g,c,lk,Oo,Gg,rfl,Oo,rfl,hid ⟨c9.out,by rw[i5.out];exact g2.out,by rw[i5.out];exact k4.out⟩⟩
     ·have i5:Hid ((VA R q k (m+1)).filter (λy=>zx o I p y O)=((VA R q k m).filter λy=>zx o I p y O)++[x]):=hid (by rw[h4.out,List.filter_append];simp[t1.out]);have A7:lk<=100000:=Oo
      go_wp2_with (first
       |(at_builtin;refine wpList_append_lies _ rfl _ _ 25 rfl w.heap.size 3 i0 (.int .i64 0) 1 8 Tryz.underlying25 hi l1 l2 l3 rfl Dd (.slice (some ⟨g,0,none⟩) lk c) _ _ rfl (k4.out.own.alloc _) ⟨_,0,none⟩ 1 1 [.int .i64 x] rfl rfl (qH _ _ _) (λu hu=>by simp at hu;subst hu;rfl) Dd (by unfold maxLen;omega) Oo (by rw[World.size_alloc];omega) _ rfl ?_;intro g9 z1 w9 i6 d8 k9 t2)
       |fail)
      have z2:=hid (k4.out.push d8 i6 k9);clear i6 d8 k9 t2;go_roundg (nr - (k+(m+1)))
      case measure=>omega
      case rel=>exact⟨m+1,g9,z1,lk+1,Oo,Gg,rfl,Oo,rfl,hid ⟨c9.out,by rw[i5.out,lA,<-g2.out];rfl,by rw[i5.out];exact z2.out⟩⟩
   ·have z3:cmpL ((R.getD (k+m) []).take q.length) q≠0:=λe=>hz (cmpL_eq e);have a9:=hid (a4.out m f9.out (λ_=>hz));have k0:=hid (a7.out wo a2.out.prt a2.out.bel);generalize cmpL ((R.getD (k+m) []).take q.length) q=cv at *;have q2:(cv == 0)=false:=by simp;exact z3
    clear a4 a7 hz;go_wp2_with (first|(go_at_call 81;refine k0.out.mono ?_;rintro e w5 ⟨rfl,d5,rfl⟩)|fail)
    go_ret;have t3:=a2.out.below (below_drewN (bM _ _) d5);have h9:=t3.own;rw[a9.out]at h9;have h8:=g2.out;rw[a9.out]at h8;exact⟨g,c,by rw[<-h8];rfl,by rw[<-h8];exact h9,t3.bel⟩
  ·have q1:¬(((k+m:Nat):Int) < (nr:Int)):=Oo;have a9:=hid (a4.out m f9.out (λh=>absurd h v7));clear a4;go_wp2_with fail
   go_ret;have h9:=a2.out.own;rw[a9.out]at h9;have h8:=g2.out;rw[a9.out]at h8;exact⟨g,c,by rw[<-h8];rfl,by rw[<-h8];exact h9,a2.out.bel⟩
end Go.Proofs.YtkaipapdlnojiaaGreat
